import Derived.Test.YtlhhgenpcjjajaaGreatDoorIvO
set_option linter.unusedSimpArgs false
set_option linter.unusedVariables false
set_option linter.defProp false
set_option maxHeartbeats 0
set_option maxRecDepth 100000
namespace Go.Proofs.YtlhhgenpcjjajaaGreatDoor
open Go.RowKit Go.PlainAid Tryz
def Pv:=@Nat.le_mul_of_pos_left
def xG:=@List.flatMap_cons
def Gd:=@List.flatMap_nil
section
variable {B R1 R2 b base bx c g i j k lg n p ps : Nat} {L : List Sp} {R : RC} {W w : gx} {c2 : jN} {cut r : Nat->Nat} {d f l : Int} {e : Ak} {look : gz->Option gz} {nm s : gz} {v : gQ} {σ : Ab}
theorem Nb (a m:List UInt8) (c:Nat) (o:1<=c) (h:m.length<=c*a.length):∀(k:Nat) (s:List UInt8),(Lib.replaceK a m k s).length<=c*s.length
 |0,s=>by simp only[Lib.replaceK];exact Pv _ o
 |k+1,s=>by
  rw[Lib.replaceK];split
  .exact Pv _ o
  .rename_i x;have z:=Lib.index_ge s a;have t:0<=Lib.index s a:=by
    have:¬Lib.index s a= -1:=λe=>x (by grind);omega
   have A:=Lib.index_room s a t;have C:(Lib.index s a).toNat+a.length<=s.length:=by omega
   have q:=Nb a m c o h k (s.drop ((Lib.index s a).toNat+a.length));generalize (Lib.index s a).toNat=i at *;simp only[mJ,List.length_take,List.length_drop]at q|-;obtain⟨d,u⟩:∃d,s.length=i+a.length+d:=⟨s.length - (i+a.length),by omega⟩;rw[u]at q|-;have e1:i+a.length+d - (i+a.length)=d:=by omega
   rw[e1]at q;have e2:c*(i+a.length+d)=c*i+c*a.length+c*d:=by rw[Nat.mul_add,Nat.mul_add]
   have y:i<=c*i:=Pv _ o;omega
theorem zT (s m a:gz) (c:Nat) (o:1<=c) (h:a.size<=c*m.size):(OY s m a).size<=c*s.size:=by
 have e1:s.size=s.data.toList.length:=DE s;have e2:(OY s m a).size=(Lib.replaceAll s.data.toList m.data.toList a.data.toList).length:=by
  rw[DE];simp[OY]
 rw[e1,e2];unfold Lib.replaceAll Lib.replace;split
 .exact Pv _ o
 .exact Nb _ _ c o (by simp_all) _ _
def D7 (s:gz):(AE s).size<=15*s.size:=by
 have a:=zT s uA kB 5 (by decide) (by decide);have h:=zT (OY s uA kB) tm ny 3 (by decide) (by decide);unfold AE;omega
def Qq (s:gz):(Hq s).size<=240*s.size:=by
 have a:=D7 s;have h:=zT (AE s) qG lC 4 (by decide) (by decide);have m:=zT (OY (AE s) qG lC) iW rW 4 (by decide) (by decide);unfold Hq;omega
def EH (s a h:gz) (w:gx) (x:Ij w) (z:s.size<=2000000000) (o:1<=a.size) (y:h.size<=16):
  Calls prog 251 #[gH s,gH a,gH h] w λe q=>e=iw (gH (OY s a h))/\Kept [] w q:=by
 have⟨⟨m,hm⟩,_⟩:=x;have u:=Lib.countB_le a o s.size s (gW _);refine(Tryz.strings_ReplaceAll s a h m w (by omega) hm o ?_).mono ?_
 .have:=Nat.mul_le_mul u y;omega
 .rintro e q ⟨rfl,t⟩;exact⟨rfl,JK t⟩
def ME (s:gz) (w:gx) (t:Ij w) (C:s.size<=1048576):
  Calls prog 420 #[gH s] w λe h=>e=iw (gH (AE s))/\Kept [] w h:=by
 have x:=EH s uA kB w t (by omega) (by decide) (by decide);have D:=zT s uA kB 5 (by decide) (by decide);have q:=(λh (z:Kept [] w h)=>EH (OY s uA kB) tm ny h (t.kept z) (by omega) (by decide) (by decide));rw[show OY (OY s uA kB) tm ny=AE s from rfl]at q;generalize OY s uA kB=u at *;generalize AE s=v at *;go_enter func420,ntmps420
 go_wp21
 refine x.mono ?_;rintro e A ⟨rfl,a⟩;have y:=q A a
 go_wp21
 refine y.mono ?_;rintro e E ⟨rfl,o⟩;have m:=a.trans o;go_wp2;go_ret;exact⟨rfl,m⟩
theorem Wu.cells {a : gQ×Bool} {l:List UInt8} (h:Wu w B b a l):∃p v,w.heap[b]?=some (gL #[p,v,a.1,.bool a.2] 100)/\B<=b:=by
 rcases h with⟨m,v,o,_⟩|⟨m,v,o,_⟩
 all_goals grind
theorem afL (B b:Nat) (x:gQ×Bool) (l:List UInt8) (s:gz) (w u:gx) (h:Wu w B b x l) (z:Ij u) (O:x.2=false) (Q:s.size<=1048576) (F:l.length+240*s.size<=140737488355328) (m:Kept [] u w) (C:u.heap.size<=B):
  Calls prog 448 #[gN b,gH s] w λe a=>e=pE/\Wu a B b x (l++(Hq s).data.toList)/\Kept [] u a:=by
 have⟨p,v,hb,hBb⟩:=h.cells;have Y:w.cell? ⟨b,3,none⟩=some (.bool false):=by rw[fW hb,<-O];rfl
 have P:=iX hb;have z1:=D7 s;have z3:=Qq s;have z2:=zT (AE s) qG lC 4 (by decide) (by decide);have G:=ME s w (z.kept m) Q;have H:=(λa (q:Kept [] w a)=>EH (AE s) qG lC a ((z.kept m).kept q) (by omega) (by decide) (by decide));have D:=(λa (q:Kept [] w a)=>EH (OY (AE s) qG lC) iW rW a ((z.kept m).kept q) (by omega) (by decide) (by decide));rw[show OY (OY (AE s) qG lC) iW rW=Hq s from rfl]at D;have E:=(λa (q:Kept [] w a)=>Bw B b a.heap.size 1 x l [Hq s] (a.alloc (gL #[gH (Hq s)] 9)) u (h.kept (q.alloc _)) (fX a _) (by simp only[kY,xG,Gd,Cw];rw[show(Hq s).data.toList.length=(Hq s).size from yA];omega) ((m.trans q).alloc _) C (by simp));have N:kY [Hq s]=(Hq s).data.toList:=by simp[kY]
 rw[N]at E;generalize OY (AE s) qG lC=u2 at *;generalize AE s=Z at *;generalize Hq s=u3 at *;go_enter func448,ntmps448
 go_wp21
 refine G.mono ?_;rintro e S ⟨rfl,o⟩;have I:=H S o
 go_wp21
 refine I.mono ?_;rintro e T ⟨rfl,t⟩;have J:=D T (o.trans t);have y:=o.trans t
 go_wp21
 refine J.mono ?_;rintro e U ⟨rfl,A⟩;have K:=E U (y.trans A)
 go_wp21
 refine K.mono ?_;rintro e w4 ⟨rfl,V,X,_⟩;go_wp2;go_end0
 grind
theorem afK (B b:Nat) (a:gQ×Bool) (l:List UInt8) (s:gz) (w m:gx) (h:Wu w B b a l) (z:a.2=true) (u:l.length+s.size<=140737488355328) (o:Kept [] m w) (q:m.heap.size<=B):
  Calls prog 448 #[gN b,gH s] w λe x=>e=pE/\Wu x B b a (l++s.data.toList)/\Kept [] m x:=by
 have⟨p,v,hb,hBb⟩:=h.cells;have E:w.cell? ⟨b,3,none⟩=some (.bool true):=by rw[fW hb,<-z];rfl
 have A:=iX hb;have t:=Bw B b w.heap.size 1 a l [s] (w.alloc (gL #[gH s] 9)) m (h.kept ((Kept.refl [] w).alloc _)) (fX w _) (by simp only[kY,xG,Gd,Cw];simp_all) (o.alloc _) q (by simp);have y:kY [s]=s.data.toList:=by simp[kY]
 rw[y]at t;go_enter func448,ntmps448
 go_wp21
 refine t.mono ?_;rintro e F ⟨rfl,C,D,_⟩;go_wp2;refine oR (Hl rfl _ _ _) rfl ?_
 grind
theorem Wu.set {m : gQ×Bool} {l:List UInt8} (h:Wu w B b m l) (a:Bool):Wu (w.setCell ⟨b,3,none⟩ (.bool a)) B b (m.1,a) l:=by
 have y:Kept [b] w (w.setCell ⟨b,3,none⟩ (.bool a)):=(Kept.refl [b] w).setCell (.inl (by simp)) _;have go:∀p,Yt w B b m p l->Yt (w.setCell ⟨b,3,none⟩ (.bool a)) B b (m.1,a) p l:=by
  rintro p ⟨o,v,t,u,x⟩;exact⟨o,v,gm t 3 _,y.ownsRow u (λq z=>by grind),x⟩
 grind[Wu]
def MP (x y s:gz):(kY [x,s,y]).length=x.size+s.size+y.size:=by
 simp only[kY,xG,Gd,Cw,mJ];rw[show s.data.toList.length=s.size from yA,show x.data.toList.length=x.size from yA,show y.data.toList.length=y.size from yA];omega
theorem adO (B b:Nat) (C:gQ×Bool) (l:List UInt8) (s:gz) (w m:gx) (h:Wu w B b C l) (A:l.length+s.size+3<=140737488355328) (u:Kept [] m w) (x:m.heap.size<=B):
  Calls prog 418 #[gN b,gH s] w λe D=>e=pE/\Wu D B b (C.1,false) (l++kY [qm,s,iW])/\Kept [] m D:=by
 have⟨p,v,hb,hBb⟩:=h.cells;have E:=fW hb 3;have K:=gu hb 3;dsimp at E;have G:=iX hb;have z:=h.set false;have a:Kept [] m (w.setCell ⟨b,3,none⟩ (.bool false)):=u.setCell (.inr (by grind)) _;have F:=MP qm iW s;have e1:qm.size=2:=rfl;have e2:iW.size=1:=rfl;rw[e1,e2]at F;obtain⟨W,o⟩:∃W,W=w.setCell ⟨b,3,none⟩ (.bool false):=⟨_,rfl⟩;rw[<-o]at z a;have y:=Bw B b W.heap.size 3 _ l [qm,s,iW] (W.alloc (gL #[gH qm,gH s,gH iW] 9)) m (z.kept ((Kept.refl [] W).alloc _)) (fX W _) (by omega) (a.alloc _) x (by simp);have t:W.heap.size=w.heap.size:=by rw[o];simp
 rw[t]at y;have q:=fV o.symm;generalize kY [qm,s,iW]=J at *;clear o;go_enter func418,ntmps418
 go_wp21
 rw[q.out];refine y.mono ?_;rintro e N ⟨rfl,H,I,_⟩;go_wp2;go_end0
 grind
theorem Ym (B b:Nat) (t:gQ×Bool) (l:List UInt8) (s:gz) (w a:gx) (h:Wu w B b t l) (q:l.length+s.size+7<=140737488355328) (m:Kept [] a w) (o:a.heap.size<=B):
  Calls prog 416 #[gN b,gH s] w λe u=>e=pE/\Wu u B b t (l++kY [np,s,oS])/\Kept [] a u:=by
 have y:=MP np oS s;have e1:np.size=4:=rfl;have e2:oS.size=3:=rfl;rw[e1,e2]at y;have x:=Bw B b w.heap.size 3 _ l [np,s,oS] (w.alloc (gL #[gH np,gH s,gH oS] 9)) a (h.kept ((Kept.refl [] w).alloc _)) (fX w _) (by omega) (m.alloc _) o (by simp);generalize kY [np,s,oS]=J at *;go_enter func416,ntmps416
 go_wp21
 refine x.mono ?_;rintro e C ⟨rfl,z,A,_⟩;go_wp2;go_end0
 grind
theorem Yn (B b:Nat) (t:gQ×Bool) (l:List UInt8) (s:gz) (w a:gx) (h:Wu w B b t l) (q:l.length+s.size+11<=140737488355328) (m:Kept [] a w) (o:a.heap.size<=B):
  Calls prog 447 #[gN b,gH s] w λe u=>e=pE/\Wu u B b t (l++kY [iQ,s,iW])/\Kept [] a u:=by
 have y:=MP iQ iW s;have e1:iQ.size=10:=rfl;have e2:iW.size=1:=rfl;rw[e1,e2]at y;have x:=Bw B b w.heap.size 3 _ l [iQ,s,iW] (w.alloc (gL #[gH iQ,gH s,gH iW] 9)) a (h.kept ((Kept.refl [] w).alloc _)) (fX w _) (by omega) (m.alloc _) o (by simp);generalize kY [iQ,s,iW]=J at *;go_enter func447,ntmps447
 go_wp21
 refine x.mono ?_;rintro e C ⟨rfl,z,A,_⟩;go_wp2;go_end0
 grind
def ZC (s:gz):(Jq s).size<=90*s.size:=by
 have a:=D7 s;have h:=zT (AE s) pD o0 6 (by decide) (by decide);unfold Jq;omega
def PS (L:lZ):List UInt8:=L.flatMap λa=>kY [⟨#[32]⟩,a.1,zm,Jq a.2,pD]
def aeZ (s:gz) (gM:lZ):List UInt8:=kY [qG,s]++PS gM++kY [iW]
theorem adN (B b:Nat) (vv:gQ×Bool) (vd:gz->Bool) (l:List UInt8) (s:gz) (av:gQ) (gM:lZ) (w H:gx) (h:Wu w B b vv l) (hv:aev H vv.1 vd) (hg:Ij H) (hs:s.size<=5000) (hA:AL w av gM) (aJ:gM.length<=16) (ha:∀a∈gM,a.1.size<=5000/\a.2.size<=66000) (aF:l.length+6000+16*6000000<=140737488355328) (ag:Kept [] H w) (a4:H.heap.size<=B):
  Calls prog 417 #[.pointer (some ⟨b,0,none⟩),.string s,av] w λe w'=>e= .returned (.bool (!vd s))/\(∃y,Wu w' B b (vv.1,s.toList==[115,116,121,108,101]) y/\y.length<=l.length+6000+gM.length*6000000/\y≠[]/\y=l++aeZ s gM)/\Kept [] H w':=by
 have⟨vx,fl⟩:=vv;have⟨kv,lb,hvx,hcf,HC⟩:=hv;have ai:vx= .func (.func kv) #[] lb:=hvx;subst ai;clear hvx;have⟨ao,cp,hav⟩:=gF hA;subst hav;have ez:(kY [qG,s]).length=s.size+1:=by
  simp only[kY,xG,Gd,Cw,mJ];rw[show s.data.toList.length=s.size from yA];simp;omega
 have ad:(kY [iW]).length=1:=rfl;have C1:=Bw B b w.heap.size 2 _ l [qG,s] (w.alloc (.cells #[.string qG,.string s] 9 (0,0))) H (h.kept ((Kept.refl [] w).alloc _)) (fX w _) (by omega) (ag.alloc _) a4 (by simp);have C2:=(λw' y (hw:Wu w' B b (.func (.func kv) #[] lb,fl) y) (hl:y.length+1<=140737488355328) (hk:Kept [] H w')=>Bw B b w'.heap.size 1 _ _ [iW] (w'.alloc (.cells #[.string iW] 9 (0,0))) H (hw.kept ((Kept.refl [] w').alloc _)) (fX w' _) (by omega) (hk.alloc _) a4 (by simp));have a6:=hA.alloc (.cells #[.string qG,.string s] 9 (0,0));have EZ:=fV ez;have aw:kY [qG,s]≠[]:=by simp[kY]
 have ak:=fV ad;have al:=ha;have am:=hg;clear ha hg;unfold aeZ;generalize kY [qG,s]=J1 at *;generalize kY [iW]=J2 at *;clear h ag ez ad hA;go_enter func417,ntmps417
 go_wp21
 refine C1.mono ?_;rintro e w1 ⟨rfl,H1,K1,aj⟩;have a7:=aj.row a6 (by decide);clear aj a6
 go_wp21
 go_loopw [15] (λv wr=>∃(t:Nat) (y:List UInt8),v= .int .i64 t/\t<=gM.length/\Wu wr B b (.func (.func kv) #[] lb,fl) y/\y.length<=l.length+5001+t*6000000/\y≠[]/\y=l++(J1++PS (gM.take t))/\Kept [] H wr/\AL wr (.slice ao gM.length cp) gM) (λv _=>gM.length - (intOf v).toNat)
 case atStart=>exact⟨0,_,rfl,iN _,H1,by rw[mJ,EZ.out];omega,λe=>aw (List.append_eq_nil_iff.1 e).2,by simp[PS],K1,a7⟩
 case round=>
  obtain⟨t,y,rfl,aK,hW,aD,J,A,Q,E⟩:=hrel
  by_cases F:t < gM.length
  .have aL:gM.length≠0:=by omega
   obtain⟨gA,aB⟩:∃gA,ao=some ⟨gA,0,none⟩:=by
    rcases E.2 with⟨e,h0⟩|⟨q,aE,aI,e,_⟩
    all_goals simp_all
   subst aB;have⟨f0,f1⟩:=TF gM t F;have q0:wr.cell? ⟨gA,t*2,none⟩=some (.string gM[t].1):=by rw[E.cellAt (t*2) (by omega)];exact f0
   have q1:wr.cell? ⟨gA,t*2+1,none⟩=some (.string gM[t].2):=by rw[E.cellAt (t*2+1) (by omega)];exact f1
   have⟨z1,z2⟩:=al gM[t] (uw F);have N:PS (gM.take (t+1))=PS (gM.take t)++kY [⟨#[32]⟩,gM[t].1,zm,Jq gM[t].2,pD]:=by
    rw[Ff,qB F];simp only[PS,Option.toList,K4,xG,Gd,Cw]
   have ac:=fV N;have ar:=fV A;clear N A;generalize gM[t].1=nm at *;generalize gM[t].2=C at *;clear f0 f1;have H2:=fV hW;have K2:=fV Q;have aa:=fV J;have A2:=fV E;clear hW Q E J
   go_wp21
   obtain⟨ba,a2⟩:∃ba,ba=wr.heap.size:=⟨_,rfl⟩;obtain⟨D,P⟩:∃D,D=wr.alloc (.cells #[.string nm,.string C] 299 (0,0)):=⟨_,rfl⟩;have a8:Hid (D.heap[ba]?=some (.cells #[.string nm,.string C] 299 (0,0))):=by rw[P,a2];exact fV (fX wr _)
   have k0:Kept [] wr D:=by rw[P];exact(Kept.refl [] wr).alloc _
   have a9:=(am.kept K2).kept k0;obtain⟨G,hG⟩:∃G:gx->Prop,G=λW=>∃l2,Wu W B b (.func (.func kv) #[] lb,fl) l2/\l2.length<=l.length+5001+(t+1)*6000000/\l2≠[]/\l2=l++(J1++PS (gM.take (t+1)))/\Kept [] H W/\AL W (.slice (some ⟨gA,0,none⟩) gM.length cp) gM:=⟨_,rfl⟩;have ay:Hid (∀W g',Kept [] D W->W.heap[g']?=some (.cells #[.string ⟨#[32]⟩,.string nm,.string zm,.string (Jq C),.string pD] 9 (0,0))->Calls prog 419 #[.pointer (some ⟨b,0,none⟩),.slice (some ⟨g',0,none⟩) 5 5] W λe W2=>e= .returned (.tuple #[])/\G W2):=fV (by
    intro W g' q aC;have zj:(kY [⟨#[32]⟩,nm,zm,Jq C,pD]).length<=5946004:=by
     have:=ZC C;simp only[kY,xG,Gd,Cw,mJ];rw[show nm.data.toList.length=nm.size from yA,show(Jq C).data.toList.length=(Jq C).size from yA];simp;omega
    refine(Bw B b g' 5 _ y [⟨#[32]⟩,nm,zm,Jq C,pD] W H (H2.kept (k0.trans q)) aC (by omega) (K2.trans (k0.trans q)) a4 (by simp)).mono ?_;rintro e W2 ⟨rfl,r1,r2,r3⟩;rw[hG];exact⟨rfl,_,r1,by rw[mJ];omega,λe=>aa (List.append_eq_nil_iff.1 e).1,(by rw[ac.out,ar.out];simp),r2,r3.row ((k0.trans q).ownsRow A2 (λ_ _=>by simp)) (by decide)⟩)
   have an:=fV hG;have ax:=fV P.symm;clear hG P k0 H2 A2 aa a7 H1 K1 C2 HC q0 q1 aD;rw[<-a2,ax.out];clear a2;refine vL (by rfl) ?_
   try (change wpAny _ _ _ _ _ _ _ (World.drew _))
   refine zi (I:=λx a W=>∃b0 b1 b2 b3 b4 b5 b6 b7 z S T U V X Y Z a0 a1,x=#[b0,b1,b2,b3,b4,b5,b6,b7,z]/\a=⟨#[.pointer (some ⟨b,0,none⟩),.string s,.slice (some ⟨gA,0,none⟩) gM.length cp,undef,undef,undef,.bool false,undef,.pointer (some ⟨ba,0,none⟩),.pointer (some ⟨b,0,none⟩),.string s,.slice (some ⟨w.heap.size,0,none⟩) 2 2,.tuple #[],.slice (some ⟨gA,0,none⟩) gM.length cp,.int .i64 (gM.length:Int),.int .i64 (t:Int),.bool true,.pointer (some ⟨gA,t*2,none⟩),.agg #[.string nm,.string C],S,T,U,V,X,Y,Z,a0,a1,u28,undef,undef,undef,undef,undef,undef,undef,undef,undef,undef,undef,undef,undef,undef,undef],[]⟩/\WeI ba b nm C G D b0 b1 b2 b3 b4 b5 b6 b7 z S T U V X Y Z a0 a1 W) ?_ ?_ _ _ _ _ ?_ ?_
   .rintro x a W k ⟨b0,b1,b2,b3,b4,b5,b6,b7,z,S,T,U,V,X,Y,Z,a0,a1,rfl,rfl,m⟩ hi;simp only[Region.ready,K9,Fg]at hi;have⟨F,hc⟩:=hi;have F:k < 9:=F;obtain rfl|rfl|rfl|rfl|rfl|rfl|rfl|rfl|rfl:k=0\/k=1\/k=2\/k=3\/k=4\/k=5\/k=6\/k=7\/k=8:=by omega
    all_goals simp[Region.binds]at hc
    .refine j9 rfl ?_;intro K' o;go_simp;refine o _ _ ⟨_,_,_,_,_,_,_,_,_,_,_,_,_,_,_,_,_,_,rfl,rfl,?_⟩;exact⟨λ_=>rfl,m.f1,m.f2,m.f3,m.f4,m.f5,m.f6,m.f7,m.f8,m.d,m.wi⟩
    .refine j9 rfl ?_;intro K' o;go_simp;refine o _ _ ⟨_,_,_,_,_,_,_,_,_,_,_,_,_,_,_,_,_,_,rfl,rfl,?_⟩;exact⟨m.f0,λ_=>rfl,m.f2,m.f3,m.f4,m.f5,m.f6,m.f7,m.f8,m.d,m.wi⟩
    .refine j9 rfl ?_;intro K' o;have e1:=m.f1 (by simp[hc]);subst e1;have u:z=false:=by
      cases z with
      |false=>rfl
      |true=>exact absurd ((m.d.2.1 (m.d.1 rfl)).1) (by simp[hc])
     subst u;have q:Kept [] D W:=m.wi;have c0:W.cell? ⟨ba,0,none⟩=some (.string nm):=by rw[fW (q.at a8.out (by simp))];rfl
     go_simp;refine o _ _ ⟨_,_,_,_,_,_,_,_,_,_,_,_,_,_,_,_,_,_,rfl,rfl,?_⟩;exact⟨m.f0,m.f1,λ_=>rfl,m.f3,m.f4,m.f5,m.f6,m.f7,m.f8,⟨m.d.1,λh=>⟨rfl,(m.d.2.1 h).2⟩,m.d.2.2.1,m.d.2.2.2⟩,m.wi⟩
    .refine j9 rfl ?_;intro K' o;go_simp;refine o _ _ ⟨_,_,_,_,_,_,_,_,_,_,_,_,_,_,_,_,_,_,rfl,rfl,?_⟩;exact⟨m.f0,m.f1,m.f2,λ_=>rfl,m.f4,m.f5,m.f6,m.f7,m.f8,m.d,m.wi⟩
    .refine j9 rfl ?_;intro K' o;have e3:=m.f3 (by simp[hc]);subst e3;have u:z=false:=by
      cases z with
      |false=>rfl
      |true=>exact absurd (m.d.2.2.2 (m.d.2.2.1 ((m.d.2.1 (m.d.1 rfl)).2))) (by simp[hc])
     subst u;have q:Kept [] D W:=m.wi;have c1:W.cell? ⟨ba,1,none⟩=some (.string C):=by rw[fW (q.at a8.out (by simp))];rfl
     go_simp;refine o _ _ ⟨_,_,_,_,_,_,_,_,_,_,_,_,_,_,_,_,_,_,rfl,rfl,?_⟩;exact⟨m.f0,m.f1,m.f2,m.f3,λ_=>rfl,m.f5,m.f6,m.f7,m.f8,⟨m.d.1,m.d.2.1,m.d.2.2.1,λ_=>rfl⟩,m.wi⟩
    .refine j9 rfl ?_;intro K' o;have e4:=m.f4 (by simp[hc]);subst e4;have u:z=false:=by
      cases z with
      |false=>rfl
      |true=>exact absurd (m.d.2.2.1 ((m.d.2.1 (m.d.1 rfl)).2)) (by simp[hc])
     subst u;have q:Kept [] D W:=m.wi;have C1:=ME C W (a9.kept q) (by omega);go_simp;refine C1.mono ?_;rintro e W2 ⟨rfl,a3⟩;refine o _ _ ⟨_,_,_,_,_,_,_,_,_,_,_,_,_,_,_,_,_,_,rfl,rfl,?_⟩;exact⟨m.f0,m.f1,m.f2,m.f3,m.f4,λ_=>rfl,m.f6,λh=>absurd (m.d.2.2.1 (m.d.2.1 h).2) (by simp[hc]),m.f8,⟨m.d.1,m.d.2.1,λ_=>rfl,λ_=>by simp[hc]⟩,(by simp only[uz,↓reduceIte];exact q.trans a3)⟩
    .refine j9 rfl ?_;intro K' o;have e5:=m.f5 (by simp[hc]);subst e5;have u:z=false:=by
      cases z with
      |false=>rfl
      |true=>exact absurd ((m.d.2.1 (m.d.1 rfl)).2) (by simp[hc])
     subst u;have q:Kept [] D W:=m.wi;have C1:=EH (AE C) pD o0 W (a9.kept q) (by have:=D7 C;omega) (by decide) (by decide);go_simp;refine C1.mono ?_;rintro e W2 ⟨rfl,a3⟩;refine o _ _ ⟨_,_,_,_,_,_,_,_,_,_,_,_,_,_,_,_,_,_,rfl,rfl,?_⟩;exact⟨m.f0,m.f1,m.f2,m.f3,m.f4,m.f5,λ_=>rfl,λh=>absurd (m.d.2.1 h).2 (by simp[hc]),m.f8,⟨m.d.1,λh=>⟨(m.d.2.1 h).1,rfl⟩,λ_=>by simp[hc],m.d.2.2.2⟩,(by simp only[uz,↓reduceIte];exact q.trans a3)⟩
    .refine j9 rfl ?_;intro K' o;have e2:=m.f2 (by simp[hc]);subst e2;have e6:=m.f6 (by simp[hc]);subst e6;have u:z=false:=by
      cases z with
      |false=>rfl
      |true=>exact absurd (m.d.1 rfl) (by simp[hc])
     subst u;have q:Kept [] D W:=m.wi;go_simp;refine o _ _ ⟨_,_,_,_,_,_,_,_,_,_,_,_,_,_,_,_,_,_,rfl,rfl,?_⟩;exact⟨m.f0,m.f1,m.f2,m.f3,m.f4,m.f5,m.f6,λ_=>⟨_,rfl,λ_=>fX W _⟩,m.f8,⟨λ_=>rfl,λ_=>⟨by simp[hc],by simp[hc]⟩,m.d.2.2.1,m.d.2.2.2⟩,(by simp only[uz,↓reduceIte];exact q.alloc _)⟩
    .refine j9 rfl ?_;intro K' o;have e0:=m.f0 (by simp[hc]);subst e0;have e7:=m.f7 (by simp[hc]);have u:z=false:=by simp[hc]
     subst u;have q:Kept [] D W:=m.wi;have⟨g',e7a,e7b⟩:=e7;subst e7a;have C1:=ay W g' q (e7b rfl);go_simp;refine C1.mono ?_;rintro e W2 ⟨rfl,aA⟩;refine o _ _ ⟨_,_,_,_,_,_,_,_,_,_,_,_,_,_,_,_,_,_,rfl,rfl,?_⟩;exact⟨m.f0,m.f1,m.f2,m.f3,m.f4,m.f5,m.f6,λ_=>⟨_,rfl,by simp⟩,λ_=>rfl,⟨λ_=>by simp[hc],m.d.2.1,m.d.2.2.1,m.d.2.2.2⟩,aA⟩
   .rintro x a W ⟨b0,b1,b2,b3,b4,b5,b6,b7,z,S,T,U,V,X,Y,Z,a0,a1,rfl,rfl,m⟩ K;simp only[Region.ready,SM,Fg]at K;have q0:=K 0 (by decide);simp[Region.binds]at q0;subst q0;have q1:=K 1 (by decide);simp[Region.binds]at q1;subst q1;have q2:=K 2 (by decide);simp[Region.binds]at q2;subst q2;have q3:=K 3 (by decide);simp[Region.binds]at q3;subst q3;have q4:=K 4 (by decide);simp[Region.binds]at q4;subst q4;have q5:=K 5 (by decide);simp[Region.binds]at q5;subst q5;have q6:=K 6 (by decide);simp[Region.binds]at q6;subst q6;have q7:=K 7 (by decide);simp[Region.binds]at q7;subst q7;have q8:=K 8 (by decide);simp[Region.binds]at q8;subst q8;have ap:=(show G W from m.wi);clear m K;rename_i KK af;refine af _ _ ?_;clear af KK;go_wp2;go_roundw
    case rel=>
     have hf:=ap;rw[an.out]at hf;have⟨l2,r1,r2,r3,re,r4,r5⟩:=hf;exact⟨t+1,l2,by go_num,by omega,r1,r2,r3,re,r4,r5⟩
    case measure=>simp[intOf];omega
   .decide
   .exact⟨_,_,_,_,_,_,_,_,_,_,_,_,_,_,_,_,_,_,rfl,rfl,by simp,by simp,by simp,by simp,by simp,by simp,by simp,by simp,by simp,by simp,(Kept.refl [] D).drew⟩
  .have e:t=gM.length:=by omega
   have az:y++J2=l++(J1++PS gM++J2):=by rw[A,e,List.take_length];simp only[wm]
   clear A;have D2:=C2 wr y hW (by omega) Q;clear C2 hW Q E
   go_wp21
   refine D2.mono ?_;rintro e w2 ⟨rfl,h2,k2,_⟩;have⟨p,v,hb,hBb⟩:=h2.cells;have c3:w2.cell? ⟨b,3,none⟩=some (.bool fl):=by rw[fW hb];rfl
   have c2:w2.cell? ⟨b,2,none⟩=some (.func (.func kv) #[] lb):=by rw[fW hb];rfl
   have f3:=gu hb 3;have aG:=iX hb;obtain⟨O,ah⟩:∃O,O=(s.toList==[115,116,121,108,101]):=⟨_,rfl⟩;have ae:=h2.set O;have a5:Kept [] H (w2.setCell ⟨b,3,none⟩ (.bool O)):=k2.setCell (.inr (by show H.heap.size<=b;omega)) _;have aH:(w2.setCell ⟨b,3,none⟩ (.bool O)).cell? ⟨b,2,none⟩=some (.func (.func kv) #[] lb):=by rw[fW (gm hb 3 _)];rfl
   have D3:=HC _ a5 s;have au:=(show y++J2≠[]from λe=>J (List.append_eq_nil_iff.1 e).1);have aq:=(show(y++J2).length<=l.length+6000+gM.length*6000000 by rw[mJ,ak.out];omega);have H2:=fV ae;have K2:=fV a5;have ab:=fV ah;clear h2 k2 hb HC ae a5;generalize hq:vd s=q at D3;have HQ:=fV hq;clear hq
   go_wp21
   rw[<-ab.out];refine D3.mono ?_;rintro e w3 ⟨rfl,rfl⟩;go_wp2;go_ret;have e9:=ab;subst e9;exact⟨by rw[HQ.out];rfl,⟨_,H2,aq,au,az⟩,K2⟩
def zP:Ev->Bool
 | .dt s=>decide (s.size<=5000)
 | .cm s=>decide (s.size<=5000)
 | .tx s=>decide (s.size<=1048576)
 | .enter s gM=>decide (gM.length<=16)&&(gM.all λa=>decide (a.1.size<=5000)&&decide (a.2.size<=66000))&&decide (s.size<=5000)
 | .wh s=>decide (s.size<=5000)
def Py:Ev->Nat
 | .tx s=>240*s.size
 | .enter _ _=>6000+16*6000000
 |_=>6000
def wH (a:List Ev):Nat:=(a.map Py).sum
def wS (a:List Ev) (e:Ev):wH (a++[e])=wH a+Py e:=by simp[wH]
def abd {a b : List Ev} (h:a <+:b):wH a<=wH b:=by
 obtain⟨r,rfl⟩:=h;simp[wH]
def KY (x:List UInt8×Bool):Ev->List UInt8×Bool
 | .dt s=>(x.1++kY [iQ,s,iW],x.2)
 | .cm s=>(x.1++kY [np,s,oS],x.2)
 | .tx s=>(x.1++(if x.2 then s else Hq s).data.toList,x.2)
 | .enter s gM=>(x.1++aeZ s gM,s.toList==[115,116,121,108,101])
 | .wh s=>(x.1++kY [qm,s,iW],false)
def SH (a:List Ev):List UInt8×Bool:=a.foldl KY ([],false)
def Bx (a:List Ev) (e:Ev):SH (a++[e])=KY (SH a) e:=by simp[SH]
theorem SE (B b:Nat) (F:gQ) (K:gz->Bool) (C:List Ev) (y:gx) (V:aev y F K) (O:Ij y) (o:y.heap.size<=B) (U:∀e∈C,zP e=true) (Z:wH C<=140737488355328):
  Vis 88 (gN b) K C y (λpre W=>Wu W B b (F,(SH pre).2) (SH pre).1/\(SH pre).1.length<=wH pre/\(pre.any pI=true->(SH pre).1≠[])):=by
 have last:∀{pre H},pre++[H] <+:C->zP H=true/\wH pre+Py H<=140737488355328:=by
  intro pre H h;refine⟨U H (h.subset (by simp)),?_⟩;have:=abd h;rw[wS]at this;omega
 refine {mono:=?_,dt:=λs=>?_,cm:=λs=>?_,tx:=λs=>?_,wh:=λs=>?_,enter:=?_}
 .rintro pre W G ⟨m,q⟩ T;exact⟨m.kept T,q⟩
 .refine⟨447,gN b,λw=>by kernel_rfl,λw=>by kernel_rfl,enters_of func447 (by rfl) rfl,λpre W t z A=>?_⟩;have⟨m,q⟩:=last A;simp only[zP,BG,Py]at m q;have⟨hl,hz,hne⟩:=z;simp only[Bx];generalize SH pre=x at *;have⟨l,a⟩:=x;dsimp only[KY]at hl hz hne|-;refine(Yn B b (F,a) l s W y hl (by omega) t o).mono ?_;rintro e G ⟨rfl,D,E⟩;refine⟨rfl,⟨D,?_,?_⟩,E⟩
  .rw[wS,mJ,MP,show iQ.size=10 from rfl,show iW.size=1 from rfl]
   grind[Py]
  simp[kY]
 .refine⟨416,gN b,λw=>by kernel_rfl,λw=>by kernel_rfl,enters_of func416 (by rfl) rfl,λpre W t z A=>?_⟩;have⟨m,q⟩:=last A;simp only[zP,BG,Py]at m q;have⟨hl,hz,hne⟩:=z;simp only[Bx];generalize SH pre=x at *;have⟨l,a⟩:=x;dsimp only[KY]at hl hz hne|-;refine(Ym B b (F,a) l s W y hl (by omega) t o).mono ?_;rintro e G ⟨rfl,D,E⟩;refine⟨rfl,⟨D,?_,?_⟩,E⟩
  .rw[wS,mJ,MP,show np.size=4 from rfl,show oS.size=3 from rfl]
   grind[Py]
  simp[kY]
 .refine⟨448,gN b,λw=>by kernel_rfl,λw=>by kernel_rfl,enters_of func448 (by rfl) rfl,λpre W t z A=>?_⟩;have⟨m,q⟩:=last A;simp only[zP,BG,Py]at m q;have⟨hl,hz,hne⟩:=z;simp only[Bx];generalize SH pre=x at *;have⟨l,a⟩:=x;dsimp only[KY]at hl hz hne|-;have I:∀u:gz,u.size<=240*s.size->(l++u.data.toList).length<=wH (pre++[.tx s])/\((pre++[Ev.tx s]).any pI=true->l++u.data.toList≠[]):=by
   intro u Y;refine⟨?_,?_⟩
   .rw[wS,mJ,show u.data.toList.length=u.size from yA]
    grind[Py]
   .intro h;rw[List.any_append]at h;have N:pre.any pI=true:=by simpa [pI]using h
    simp_all
  cases a with
  |false=>
   refine(afL B b (F,false) l s W y hl O rfl m (by omega) t o).mono ?_;rintro e G ⟨rfl,D,E⟩;have⟨f1,f2⟩:=I _ (Qq s)
   grind
  |true=>
   refine(afK B b (F,true) l s W y hl rfl (by omega) t o).mono ?_
   grind
 .refine⟨418,gN b,λw=>by kernel_rfl,λw=>by kernel_rfl,enters_of func418 (by rfl) rfl,λpre W t z A=>?_⟩;have⟨m,q⟩:=last A;simp only[zP,BG,Py]at m q;have⟨hl,hz,hne⟩:=z;simp only[Bx];generalize SH pre=x at *;have⟨l,a⟩:=x;dsimp only[KY]at hl hz hne|-;refine(adO B b (F,a) l s W y hl (by omega) t o).mono ?_;rintro e G ⟨rfl,D,E⟩;refine⟨rfl,⟨D,?_,?_⟩,E⟩
  .rw[wS,mJ,MP,show qm.size=2 from rfl,show iW.size=1 from rfl]
   grind[Py]
  simp[kY]
 .refine⟨417,gN b,λw=>by kernel_rfl,λw=>by kernel_rfl,enters_of func417 (by rfl) rfl,λpre W s P gM t z A Q S=>?_⟩;have⟨m,q⟩:=last A;simp only[zP,sq,BG,Nu,Py]at m q;have⟨⟨N,h8⟩,h5⟩:=m;have⟨hl,hz,hne⟩:=z;simp only[Bx];generalize SH pre=x at *;have⟨l,a⟩:=x;dsimp only[KY]at hl hz hne|-;refine(adN B b (F,a) K l s P gM W y hl V O h5 Q N h8 (by omega) t o).mono ?_;rintro e G ⟨rfl,⟨l',D,X,J,rfl⟩,E⟩;refine⟨rfl,⟨D,?_,λ_=>J⟩,E⟩;rw[wS]
  grind[Py]
theorem adw (B b:Nat) (u:gQ×Bool) (l:List UInt8) (w y:gx) (h:Wu w B b u l) (C:l≠[]) (o:Kept [] y w) (U:y.heap.size<=B) (D:l.length<=140737488355328):
  Calls prog 43 #[gN b] w λe X=>e=iw (gH ⟨l.toArray⟩)/\Kept [] y X:=by
 obtain⟨p,Z,v,t,q,S⟩:∃p,Yt w B b u p l:=by
  rcases h with h|h
  all_goals grind
 have O:l.length≠0:=by simpa using C
 obtain⟨g,a,m,rfl,H,K,Q,I,J,A⟩:∃g a m,v=oe g l.length a/\B<=g/\w.heap[g]?=some (gL m 5)/\l.length<=a/\a<=maxLen/\m.size=a*1/\m.toList.take (l.length*1)=Lib.byteCells l:=by
  rcases q.2 with⟨_,hz⟩|⟨g,a,m,T,r⟩
  .omega
  .exact⟨g,a,m,T,r⟩
 have Y:w.drew.cell? ⟨b,1,none⟩=some (oe g l.length a):=by
  have:w.drew.heap[b]?=some (gL #[p,oe g l.length a,u.1,.bool u.2] 100):=t;rw[Lib.cell_of_heap this];rfl
 have P:=iX t;have F:(Builtin.unsafeSliceData_ #[55] 143 #[oe g l.length a]).run prog w.drew= .ok (gN g) w.drew:=
  Lib.run_unsafeSliceData_row _ _ _ _ _ _ (by omega)
 have G:(Builtin.unsafeString_ #[143,3] 9 #[gN g,gh l.length]).run prog w.drew= .ok (gH ⟨l.toArray⟩) (w.drew.freeze ⟨g,0,none⟩ l.length):=by
  refine Lib.run_unsafeString_row w.drew 143 3 9 5 underlying143 rfl g m.size (by have z:w.drew.heap[g]?=some (gL m 5):=K;simp[World.shape?,z]) l C ?_ ?_ ?_
  .omega
  .omega
  .intro j x V;have:=q.cells (g:=g) rfl j (.int .u8 x.toNat) (by simp[Lib.byteCells,V]);exact this
 have E:Hid (Kept [] y (w.drew.freeze ⟨g,0,none⟩ l.length)):=fV (JK (Lib.below_freeze (Below.drew ⟨o.os,o.tape,o.output,o.size,λk N=>o.block k N (by simp)⟩) (p:=⟨g,0,none⟩) (by grind) _));go_enter func43,ntmps43;go_wp2;go_region
 all_goals (go_wp2;go_ret;exact⟨rfl,E⟩)
theorem adv (B b:Nat) (q:gQ×Bool) (w G:gx) (h:Wu w B b q []) (C:Kept [] G w):
  Calls prog 43 #[gN b] w λe O=>e=iw (gH jz)/\Kept [] G O:=by
 obtain⟨p,S,v,o,u,N⟩:∃p,Yt w B b q p []:=by
  rcases h with h|h
  all_goals grind
 have D:=iX o;have m:=λ(W:gx) (p:Option Addr)=>Lib.run_unsafeString_none (P:=prog) (w:=W) 143 3 9 p;have x:=C;rcases u.2 with⟨rfl,_⟩|⟨g,a,z,rfl,J,K,T⟩
 .have y:w.drew.cell? ⟨b,1,none⟩=some (jc):=by
   have:w.drew.heap[b]?=some (gL #[p,jc,q.1,.bool q.2] 100):=o;rw[Lib.cell_of_heap this];rfl
  have t:(Builtin.unsafeSliceData_ #[55] 143 #[jc]).run prog w.drew= .ok (.pointer none) w.drew:=Lib.run_unsafeSliceData_nil _ _ _ _ _;have E:=m w.drew none;go_enter func43,ntmps43;go_wp2;go_region
  all_goals (go_wp2;go_ret;exact⟨rfl,x.drew⟩)
 .have y:w.drew.cell? ⟨b,1,none⟩=some (oe g 0 a):=by
   have:w.drew.heap[b]?=some (gL #[p,oe g 0 a,q.1,.bool q.2] 100):=o;rw[Lib.cell_of_heap this];rfl
  by_cases F:a=0
  .subst F;have t:(Builtin.unsafeSliceData_ #[55] 143 #[oe g 0 0]).run prog w.drew= .ok (gN w.drew.heap.size) (w.drew.alloc (.view ⟨g,0,none⟩ 5)):=by
    have A:w.drew.heap[g]?=some (gL z 5):=K;exact Lib.run_unsafeSliceData_zero _ _ _ 5 underlying143 ⟨g,0,none⟩ 0 _ (by simp only[World.shape?,A];rfl)
   have E:=m (w.drew.alloc (.view ⟨g,0,none⟩ 5)) (some ⟨w.drew.heap.size,0,none⟩);have I:=m (w.alloc (.view ⟨g,0,none⟩ 5)).drew (some ⟨w.heap.size,0,none⟩);have Q:w.cell? ⟨b,1,none⟩=some (oe g 0 0):=y;have c2:(w.drew.alloc (.view ⟨g,0,none⟩ 5)).cell? ⟨b,1,none⟩=some (oe g 0 0):=by rw[qy _ _ _ D];exact y
   have H:=x.drew.alloc (.view ⟨g,0,none⟩ 5);go_enter func43,ntmps43;go_wp2;go_region
   all_goals (go_wp2;go_ret;exact⟨rfl,H⟩)
  .have t:(Builtin.unsafeSliceData_ #[55] 143 #[oe g 0 a]).run prog w.drew= .ok (gN g) w.drew:=Lib.run_unsafeSliceData_row _ _ _ _ _ _ F;have E:=m w.drew (some ⟨g,0,none⟩);go_enter func43,ntmps43;go_wp2;go_region
   all_goals (go_wp2;go_ret;exact⟨rfl,x.drew⟩)
def adx (B b:Nat) (t:gQ×Bool) (l:List UInt8) (w o:gx) (h:Wu w B b t l) (a:Kept [] o w) (q:o.heap.size<=B) (m:l.length<=140737488355328):
  Calls prog 43 #[gN b] w λe x=>e=iw (gH ⟨l.toArray⟩)/\Kept [] o x:=by
 by_cases u:l=[]
 .subst u;exact adv B b t w o h a
 .exact adw B b t l w o h u a q m
def SG (w:gx) (k:Nat) (m:gz) (gM:lZ) (q:List Tn) (h:jL w (.el m gM q) (.el k)) (X:sr w) (Y:Ij w)
  (y:∀J,(∀e∈vj J q,zP e=true)/\wH (vj J q)<=140737488355328):
  Calls prog 32 #[gN k] w λe w'=>e=iw (gH ⟨(SH (vj (Vk sx 1) q)).1.toArray⟩)/\Kept [] w w':=by
 have K:=Co w X;have N:=(λt W (D:sW W t (AZ sx))=>UY t 1 sx W D (by decide) Va);have U:=h;have T:=Y;have S:=y;go_enter func32,ntmps32
 go_wp21
 refine K.mono ?_;rintro e w1 ⟨t,rfl,D,u,_⟩;have Q:=N t w1 D
 go_wp21
 refine Q.mono ?_;rintro e a ⟨⟨v,rfl,I⟩,z⟩;have E:=I.toW;have⟨kk,lb,hvv,_⟩:=I.call;subst hvv;have o:=u.trans z;have⟨h1,H2⟩:=S (Vk sx 1);have G:=(Kept.refl [] a).alloc (gL #[.pointer none,jc,.func (.func kk) #[] lb,.bool false] 100);have F:Wu (a.alloc (gL #[.pointer none,jc,.func (.func kk) #[] lb,.bool false] 100)) a.heap.size a.heap.size (.func (.func kk) #[] lb,false) []:= .inl ⟨gW _,_,fX a _,od _ _ _ _,by simp[Value.ownBlock]⟩;have V:=SE a.heap.size a.heap.size _ _ (vj (Vk sx 1) q) a E (T.kept o) (gW _) h1 H2;have O:=zh V k m gM q (jL.kept o U) rfl _ G ⟨F,iN _,by simp⟩
 go_wp21
 refine O.mono ?_;rintro e w4 ⟨rfl,⟨H,hz,a0⟩,A⟩;have⟨p,vv,hbk,_⟩:=H.cells;have Z:=iX hbk;have P:=adx _ _ _ _ w4 a H A (gW _) (j7 hz H2)
 go_wp21
 refine P.mono ?_;rintro e w5 ⟨rfl,C⟩;have x:=o.trans C;go_wp2;go_ret;exact⟨rfl,x⟩
def Su (w:gx) (bx k:Nat) (c:jN) (a:gz) (gM:lZ) (m:List Tn) (q:SZ w bx c k) (h:jL w (.el a gM m) (.el k)) (z:sr w) (A:Ij w)
  (o:∀t,(∀e∈vj t m,zP e=true)/\wH (vj t m)<=140737488355328):
  Calls prog 19 #[gN bx] w λe D=>e=iw (gH ⟨(SH (vj (Vk sx 1) m)).1.toArray⟩)/\Kept [] w D:=by
 have u:=GH w bx k c q;have x:=SG w k a gM m h z A o;have E:=q.xX;have C:=iX q.1;go_enter func19,ntmps19
 go_wp21
 refine u.mono ?_;rintro e F ⟨rfl,rfl⟩
 go_wp21
 refine x.mono ?_;rintro e G ⟨rfl,y⟩;go_wp2;go_ret;exact⟨rfl,y⟩
def vi (s:gz):jz++s=s:=by
 rfl
def Gy (s:gz):s.extract 0 s.size=s:=by simp
def uB:jN:=#[gh 0,gh 0,jc,gH jz,jc]
theorem rQ {e : TypeId} {x : Nat} {xs : List gQ} (u:w.ownsRow base e x v n xs) {c : jN} {t : TypeId} (z:w.heap[b]?=some (gL c t)) (q:e≠t):∀k,v.ownBlock=some k->k∉[b]:=by
 intro k a o;have e1:=List.mem_singleton.1 o;subst e1;rcases u.2 with⟨e2,_⟩|⟨C,h,m,e2,_,A,_⟩
 .rw[e2]at a;cases a
 .rw[e2]at a;have y:=jy a
  grind
def ou (T:List Tn):List It:=lE (vj (λ_=>false) T)
def SZ.of (h:w.heap[bx]?=some (gL (Dk d f l n v k) 76)):SZ w bx (Dk d f l n v k) k:=⟨h,rfl⟩
structure Told where
 c:Nat
 p:Nat
 its:List It
 txt:gz
 sps:List Sp
def Fi (w:gx) (X:Told) (e:Ending) (w':gx):Prop:=∃t h a m o q,e=iw (.tuple #[.agg #[gh X.c,gh X.p,.slice t h a,gH X.txt,.slice m o q],.bool true])/\w'.ownsRow w.heap.size 57 3 (.slice t h a) X.its.length (pR X.its)/\w'.ownsRow w.heap.size 53 3 (.slice m o q) X.sps.length (kD X.sps)/\Kept [] w w'
def VU (T:List Tn):gz:=⟨(SH (vj (Vk sx 1) T)).1.toArray⟩
def UN (T:List Tn):Prop:=(∀a,(∀e∈vj a T,zP e=true)/\wH (vj a T)<=140737488355328)/\(ou T).length<=1000000000
structure Kvx (w:gx) (bx R1 R2 k:Nat) (d f l:Int) (n:Nat) (v:gQ) (L:List Sp) (D:Tn) (c2:jN) (W:gx):Prop where
 px:W.heap[bx]?=some (gL (Dk d f l n v k) 76)
 tr:jL W D (.el k)
 sp:W.ownsRow 0 53 3 v L.length (kD L)
 r1:W.heap[R1]?=some (gL uB 28)
 r2:W.heap[R2]?=some (gL c2 28)
 ne:R1≠R2
 ge:w.heap.size<=R2
 kp:Kept [] w W
def Kvx.k0 {D : Tn} {m : gx} (h:Kvx w bx R1 R2 k d f l n v L D c2 W) (a:Kept [] W m):Kvx w bx R1 R2 k d f l n v L D c2 m:=
 ⟨a.at h.px (by simp),jL.kept a h.tr,a.ownsRow h.sp (λ_ _=>by simp),a.at h.r1 (by simp),a.at h.r2 (by simp),h.ne,h.ge,h.kp.trans a⟩
def Kvx.set {D : Tn} (h:Kvx w bx R1 R2 k d f l n v L D c2 W) (j:Nat) (u:gQ):Kvx w bx R1 R2 k d f l n v L D (c2.setIfInBounds j u) (W.setCell ⟨R2,j,none⟩ u):=by
 have a:Kept [R2] W (W.setCell ⟨R2,j,none⟩ u):=(Kept.refl _ _).setCell (.inl (by simp)) _;have y:bx∉[R2]:=by
  intro z;have e:=List.mem_singleton.1 z;have o:=h.px;rw[e,h.r2]at o;simp at o
 exact⟨a.at h.px y,jL.kn (KN.jQ a (λq A c t m x=>by
   have e:=List.mem_singleton.1 A;subst e;rw[h.r2]at m;simp at m;rw[<-m.2]at x;revert x;decide)) h.tr,a.ownsRow h.sp (rQ h.sp h.r2 (by decide)),a.at h.r1 (by simpa using h.ne),gm h.r2 j u,h.ne,h.ge,h.kp.setCell (.inr h.ge) _⟩
structure Kvq (w:gx) (bx R1 R2 k c p:Nat) (d f l:Int) (c2:jN) (W:gx):Prop where
 px:W.heap[bx]?=some (gL (zR d f l p k) 76)
 st:kG W k c p
 er:errorType W
 r1:W.heap[R1]?=some (gL uB 28)
 r2:W.heap[R2]?=some (gL c2 28)
 ne:R1≠R2
 ge:w.heap.size<=R2
 el:0 < w.heap.size
 kp:Kept [] w W
def Kvq.k0 {m : gx} (h:Kvq w bx R1 R2 k c p d f l c2 W) (a:Kept [] W m):Kvq w bx R1 R2 k c p d f l c2 m:=
 ⟨a.at h.px (by simp),a.at h.st (by simp),h.er.kept a (by simp),a.at h.r1 (by simp),a.at h.r2 (by simp),h.ne,h.ge,h.el,h.kp.trans a⟩
theorem Kvq.set (h:Kvq w bx R1 R2 k c p d f l c2 W) (j:Nat) (u:gQ):Kvq w bx R1 R2 k c p d f l (c2.setIfInBounds j u) (W.setCell ⟨R2,j,none⟩ u):=by
 have m:Kept [R2] W (W.setCell ⟨R2,j,none⟩ u):=(Kept.refl _ _).setCell (.inl (by simp)) _;have q:bx∉[R2]:=by
  intro o;have e:=List.mem_singleton.1 o;have a:=h.px;rw[e,h.r2]at a;simp at a
 have t:k∉[R2]:=by
  intro o;have e:=List.mem_singleton.1 o;have a:=h.st;unfold kG at a;rw[e,h.r2]at a;simp at a
 exact⟨m.at h.px q,m.at h.st t,h.er.kept m (by have:=h.el;have:=h.ge;grind),m.at h.r1 (by simpa using h.ne),gm h.r2 j u,h.ne,h.ge,h.el,h.kp.setCell (.inr h.ge) _⟩
structure SX (w:gx) (g:Nat):Prop where
 lt:g < w.heap.size
 at_:∀k,k < 3->∃c:Nat,c<=39/\w.cell? ⟨g,k,none⟩=some (gh c)
def SX.kept {w' : gx} {S : List Nat} (h:SX w g) (m:Kept S w w') (t:g∉S):SX w' g:=
 ⟨mi h.lt m.size,λk a=>by obtain⟨c,o,q⟩:=h.at_ k a;exact⟨c,o,(m.cell (p:=⟨g,k,none⟩) h.lt t).trans q⟩⟩
def D8 (s:gz) (i n:Nat) (h:i+n<=s.size):s.extract 0 i++s.extract i (i+n)=s.extract 0 (i+n):=by
 apply ve;rw[ByteArray.data_append,ByteArray.data_extract,ByteArray.data_extract,ByteArray.data_extract];rw[Array.extract_append_extract]
 congr 1
 omega
structure Mj (a:Int×Int×Int) (w1:gx) (bx:Nat) (s:gz) (i:Nat) (tv:gQ) (wr:gx):Prop where
 iC:wr.heap[bx]?=some (gL (ry a tv) 76)
 own:wr.ownsRow w1.heap.size 5 1 tv (s.extract 0 i).size (kH (s.extract 0 i))
 kept:Kept [bx] w1 wr
def TZ (s:gz) (d f l:Nat) (w:gx) (hs:s.size<=1024) (hd:4<=d/\d<=64) (hf:1<=f/\f<=32) (hl:1<=l/\l<=16) (hT:xL w) (hg:Ij w) {gM : lZ} {T : List Tn} (hn:IJ s d f l (.el nm gM T) L) (hE:UN T):
  Calls prog 8 #[gH s,gh d,gh f,gh l,jc] w (Fi w ⟨0,s.size,ou T,VU T,L⟩):=by
 obtain⟨y,O⟩:∃y,y=w.alloc (.cells uB 28):=⟨_,rfl⟩;have k0:Kept [] w y:=by rw[O];exact(Kept.refl _ _).alloc _
 have z0:y.heap.size=w.heap.size+1:=by rw[O];simp
 have r0:y.heap[w.heap.size]?=some (gL uB 28):=by rw[O];exact fX w _
 have CN:=fV (Iw (d:Int) (f:Int) (l:Int) y ⟨by omega,by omega,by omega,by omega,by omega,by omega⟩);have HW:=fV (show w.alloc (.cells uB 28)=y from O.symm);unfold uB at HW;have HE:=fV hE;have HT:=fV hT;have HG:=fV hg;have aG:=fV hn;have aD:=fV k0;have HZ:=fV z0;have HR:=fV r0;clear O k0 z0 r0 hT hg hn hE;go_enter func8,ntmps8
 go_wp21
 rw[HW.out];refine CN.out.mono ?_;rintro e w1 ⟨rfl,ab,am⟩;have CW:=λ(t:gz) (ht:t.size<=1024)=>wP y.heap.size ((d:Int),(f:Int),(l:Int)) (jc) ⟨#[]⟩ t w1.heap.size w1 ab (od _ _ _ _) (by show 0+t.size<=1024;omega) (gW _);simp only[vi]at CW;have aC:=fV (CW s hs);have aB:=fV CW;have aE:=fV am;have aO:=fV (iX ab);clear CW ab am CN
 go_wp21
 refine uj 2 ?_;rw[nU]
 by_cases h0:s.size=0
 have e1:ByteArray.empty=s:=by apply ve;exact(Ga h0).symm
 have hz:((ByteArray.empty).size:Int)=0:=rfl;have C0:=fV (aB.out ByteArray.empty (by decide));have E1:=fV e1;clear e1
 go_wp21
 refine C0.out.mono ?_;rintro e a ⟨rfl,z⟩;rw[E1.out]at z;have a2:=fV z;clear z C0
 go_wp21
 clear h0 hz
 rotate_left
 go_wp21
 refine aC.out.mono ?_;rintro e a ⟨rfl,z⟩;have a2:=fV z;clear z
 go_wp21
 rw[nU]
 go_wp21
 all_goals
  have z:=a2.out;clear a2;have⟨tv,hx2,ow2,hk2,_⟩:=z;have a4:Kept [] y a:=aE.out.next (S':=y.heap.size::(jc).ownBlock.toList) hk2 (by simp[Value.ownBlock]);have k3:Kept [] a (a.alloc (.cells #[gh 0,gh 0,jc,gH jz,jc] 28)):=(Kept.refl _ _).alloc _;have X:=(aD.out.trans a4).trans k3;have aA:=fV (fX a (.cells #[gh 0,gh 0,jc,gH jz,jc] 28));have CC:=fV (Vy y.heap.size d f l tv s w1.heap.size _ (k3.at hx2 (by simp)) (k3.ownsRow ow2 (λ_ _=>by simp)) (HT.out.fr (bm:=0) (.gU X)) (HG.out.kept X) aG.out);have ae:=fV X;have aH:=fV (k3.at (a4.at HR.out (by simp)) (by simp));have a1:y.heap.size < a.heap.size:=iX hx2;have a3:=fV a1;clear hx2 ow2 hk2 a4 k3 X a1
  go_wp21
  refine CC.out.mono ?_;rintro e w4 ⟨rfl,v4,k4,ax,av,au,ap,U⟩;have aq:a.heap.size∉[y.heap.size]:=by have:=a3.out;simp;omega
  have ar:w.heap.size∉[y.heap.size]:=by have:=HZ.out;simp;omega
  have V4:Kvx w y.heap.size w.heap.size a.heap.size k4 d f l s.size v4 L (.el nm gM T) #[gh 0,gh 0,jc,gH jz,jc] w4:=
   ⟨ax,av,jR au (iN _),U.at aH.out ar,U.at aA.out aq,by have:=HZ.out;have:=a3.out;omega,by have:=HZ.out;have:=a3.out;omega,ae.out.next U (by have:=HZ.out;simp;omega)⟩
  have d0:=fW V4.r2 0;have f0:=gu V4.r2 0;dsimp at d0;have ES:=fV (nQ V4.r2 0 (gh 0) rfl);have CS:=fV (GY y.heap.size d f l s.size k4 v4 w4 V4.px);have aI:=fV V4;have aF:=fV ap;clear ax av au ap U V4 CC
  go_wp21
  rw[ES.out];refine CS.out.mono ?_;rintro e w6 ⟨rfl,an⟩;have V6:=aI.out.k0 an;have g0:=fW V6.r2 0;have g1:=fW V6.r2 1;have y1:=gu V6.r2 1;dsimp at g0 g1;have V7:=V6.set 1 (gh s.size);obtain⟨w7,a9⟩:∃w7,w7=w6.setCell ⟨a.heap.size,1,none⟩ (gh s.size):=⟨_,rfl⟩;rw[<-a9]at V7;have aK:=fV a9.symm;have CL:=fV (Q4 w7 y.heap.size k4 _ _ _ _ (SZ.of V7.px) V7.tr (ou T) rfl HE.out.2);have ak:=fV V7;clear an V6 V7 a9 CS
  go_wp21
  rw[aK.out];refine CL.out.mono ?_;rintro e w8 ⟨v8,rfl,V,ao⟩;have⟨a8,p8,hv8⟩:=gF V;subst hv8;have V8:=ak.out.k0 ao;have g2:w8.cell? ⟨a.heap.size,2,none⟩=some (jc):=by rw[fW V8.r2];rfl
  have y2:=gu V8.r2 2;have V9:=V8.set 2 (.slice a8 (ou T).length p8);have a7:(w8.setCell ⟨a.heap.size,2,none⟩ (.slice a8 (ou T).length p8)).ownsRow w.heap.size 57 3 (.slice a8 (ou T).length p8) (ou T).length (pR (ou T)):=((Kept.refl [a.heap.size] w8).setCell (.inl (by simp)) _).ownsRow (jR V ak.out.kp.size) (rQ V V8.r2 (by decide));obtain⟨w9,aa⟩:∃w9,w9=w8.setCell ⟨a.heap.size,2,none⟩ (.slice a8 (ou T).length p8):=⟨_,rfl⟩;rw[<-aa]at V9 a7;have aL:=fV aa.symm;have CX:=fV (Su w9 y.heap.size k4 _ _ _ _ (SZ.of V9.px) V9.tr (HT.out.fr (bm:=0) (.gU V9.kp)).1 (HG.out.kept V9.kp) HE.out.1);have aJ:=fV V9;have ah:=fV a7;clear V ao V8 V9 a7 aa CL
  go_wp21
  rw[aL.out];refine CX.out.mono ?_;rintro e ac ⟨rfl,D⟩;obtain⟨C,N⟩:∃C:gz,C=⟨(SH (vj (Vk sx 1) T)).1.toArray⟩:=⟨_,rfl⟩;rw[<-N];have aj:=fV N;have G:=aJ.out.k0 D;have g3:ac.cell? ⟨a.heap.size,3,none⟩=some (gH jz):=by rw[fW G.r2];rfl
  have y3:=gu G.r2 3;have H:=G.set 3 (gH C);have J:=((Kept.refl [a.heap.size] ac).setCell (p:=⟨a.heap.size,3,none⟩) (.inl (by simp)) (gH C)).ownsRow (D.ownsRow ah.out (λ_ _=>by simp)) (rQ (D.ownsRow ah.out (λ_ _=>by simp)) G.r2 (by decide));obtain⟨ad,P⟩:∃ad,ad=ac.setCell ⟨a.heap.size,3,none⟩ (gH C):=⟨_,rfl⟩;rw[<-P]at H J;have al:=fV P.symm;have CT:=fV (aa9 y.heap.size d f l s.size k4 0 v4 L ad H.px H.sp (by have:=aF.out;omega));have Z:=fV H;have af:=fV J;clear D G H J P CX N
  go_wp21
  rw[al.out];refine CT.out.mono ?_;rintro e o ⟨aP,rfl,K,I⟩;have⟨a12,c12,hv12⟩:=gF K;subst hv12;have E:=Z.out.k0 I;have a0:=I.ownsRow af.out (λ_ _=>by simp);have ai:=fV (jR K Z.out.kp.size);generalize hlen:(ou T).length=ay at *;generalize hlen2:L.length=az at *;have Y:=fV hlen;have F:=fV hlen2;have A:=E.r2;have u:=E.r1;have m0:o.cell? ⟨a.heap.size,0,none⟩=some (gh 0):=by rw[fW A];rfl
  have m1:o.cell? ⟨a.heap.size,1,none⟩=some (gh s.size):=by rw[fW A];rfl
  have m2:o.cell? ⟨a.heap.size,2,none⟩=some (.slice a8 ay p8):=by rw[fW A];rfl
  have m3:o.cell? ⟨a.heap.size,3,none⟩=some (gH C):=by rw[fW A];rfl
  have m4:o.cell? ⟨a.heap.size,4,none⟩=some (jc):=by rw[fW A];rfl
  have y4:=gu A 4;have u0:o.cell? ⟨w.heap.size,0,none⟩=some (gh 0):=by rw[fW u];rfl
  have u1:o.cell? ⟨w.heap.size,1,none⟩=some (gh 0):=by rw[fW u];rfl
  have u2:o.cell? ⟨w.heap.size,2,none⟩=some (jc):=by rw[fW u];rfl
  have u3:o.cell? ⟨w.heap.size,3,none⟩=some (gH jz):=by rw[fW u];rfl
  have u4:o.cell? ⟨w.heap.size,4,none⟩=some (jc):=by rw[fW u];rfl
  have j0:=gu u 0;have j1:=gu u 1;have j2:=gu u 2;have j3:=gu u 3;have j4:=gu u 4;have aN:w.heap.size≠a.heap.size:=E.ne;have aw:a.heap.size≠w.heap.size:=λh=>E.ne h.symm;have x:=fV E;have ag:=fV a0;clear E a0 A u I CT K hlen hlen2;go_wp2;refine oR (v:= .tuple #[.agg #[gh 0,gh s.size,.slice a8 ay p8,gH C,.slice a12 az c12],.bool true]) ?_ rfl ⟨_,_,_,_,_,_,by rw[aj.out];rfl,?_,?_,?_⟩
  .simp[results,results8,asAddr,Result.andThen,go_sem,u0,u1,u2,u3,u4,aN,aw]
  .have Q:=ag.out;rw[<-Y.out]at Q;rw[<-Y.out];have h5:=rQ Q x.out.r2 (by decide);have h6:=rQ Q x.out.r1 (by decide);refine Kept.ownsRow (S:=[a.heap.size,w.heap.size]) (((((((Kept.refl _ o).setCell (.inl (by simp)) _).setCell (.inl (by simp)) _).setCell (.inl (by simp)) _).setCell (.inl (by simp)) _).setCell (.inl (by simp)) _).setCell (.inl (by simp)) _) Q (λq hq=>?_);have a5:=h5 q hq;have a6:=h6 q hq;simp at a5 a6|-;omega
  .have Q:=ai.out;rw[<-F.out]at Q;rw[<-F.out];have h5:=rQ Q x.out.r2 (by decide);have h6:=rQ Q x.out.r1 (by decide);refine Kept.ownsRow (S:=[a.heap.size,w.heap.size]) (((((((Kept.refl _ o).setCell (.inl (by simp)) _).setCell (.inl (by simp)) _).setCell (.inl (by simp)) _).setCell (.inl (by simp)) _).setCell (.inl (by simp)) _).setCell (.inl (by simp)) _) Q (λq hq=>?_);have a5:=h5 q hq;have a6:=h6 q hq;simp at a5 a6|-;omega
  .have m:=x.out.kp;have aM:=x.out.ge;exact(((((m.setCell (.inr aM) _).setCell (.inr (gW _)) _).setCell (.inr (gW _)) _).setCell (.inr (gW _)) _).setCell (.inr (gW _)) _).setCell (.inr (gW _)) _
def T0 (s:gz) (d f l:Nat) (w:gx) (hs:s.size<=1024) (hd:4<=d/\d<=64) (hf:1<=f/\f<=32) (hl:1<=l/\l<=16) (hT:xL w) (hg:Ij w) (hn:IL s d f l c p) (hE:errorType w) (ao:0 < w.heap.size):
  Calls prog 8 #[gH s,gh d,gh f,gh l,jc] w (Fi w ⟨c,p,[],⟨#[]⟩,[]⟩):=by
 obtain⟨u,C⟩:∃u,u=w.alloc (.cells uB 28):=⟨_,rfl⟩;have k0:Kept [] w u:=by rw[C];exact(Kept.refl _ _).alloc _
 have z0:u.heap.size=w.heap.size+1:=by rw[C];simp
 have r0:u.heap[w.heap.size]?=some (gL uB 28):=by rw[C];exact fX w _
 have CN:=fV (Iw (d:Int) (f:Int) (l:Int) u ⟨by omega,by omega,by omega,by omega,by omega,by omega⟩);have HW:=fV (show w.alloc (.cells uB 28)=u from C.symm);unfold uB at HW;have HE:=fV hE;have HT:=fV hT;have HG:=fV hg;have ag:=fV hn;have ae:=fV k0;have Y:=fV z0;have HR:=fV r0;clear C k0 z0 r0 hT hg hn hE;go_enter func8,ntmps8
 go_wp21
 rw[HW.out];refine CN.out.mono ?_;rintro e w1 ⟨rfl,V,a2⟩;have CW:=λ(t:gz) (ht:t.size<=1024)=>wP u.heap.size ((d:Int),(f:Int),(l:Int)) (jc) ⟨#[]⟩ t w1.heap.size w1 V (od _ _ _ _) (by show 0+t.size<=1024;omega) (gW _);simp only[vi]at CW;have ad:=fV (CW s hs);have ac:=fV CW;have af:=fV a2;have ar:=fV (iX V);clear CW V a2 CN
 go_wp21
 refine uj 2 ?_;rw[nU]
 by_cases h0:s.size=0
 have e1:ByteArray.empty=s:=by apply ve;exact(Ga h0).symm
 have hz:((ByteArray.empty).size:Int)=0:=rfl;have C0:=fV (ac.out ByteArray.empty (by decide));have E1:=fV e1;clear e1
 go_wp21
 refine C0.out.mono ?_;rintro e o ⟨rfl,x⟩;rw[E1.out]at x;have O:=fV x;clear x C0
 go_wp21
 clear h0 hz
 rotate_left
 go_wp21
 refine ad.out.mono ?_;rintro e o ⟨rfl,x⟩;have O:=fV x;clear x
 go_wp21
 rw[nU]
 go_wp21
 all_goals
  have x:=O.out;clear O;have⟨tv,hx2,ow2,hk2,_⟩:=x;have Q:Kept [] u o:=af.out.next (S':=u.heap.size::(jc).ownBlock.toList) hk2 (by simp[Value.ownBlock]);have k3:Kept [] o (o.alloc (.cells #[gh 0,gh 0,jc,gH jz,jc] 28)):=(Kept.refl _ _).alloc _;have E:=(ae.out.trans Q).trans k3;have ab:=fV (fX o (.cells #[gh 0,gh 0,jc,gH jz,jc] 28));have CC:=fV (GX u.heap.size d f l tv s w1.heap.size _ (k3.at hx2 (by simp)) (k3.ownsRow ow2 (λ_ _=>by simp)) (HT.out.fr (bm:=0) (.gU E)) (HG.out.kept E) ag.out (HE.out.kept E (by simp)) (by have:=Y.out;omega));have H:=fV E;have ah:=fV (k3.at (Q.at HR.out (by simp)) (by simp));have N:u.heap.size < o.heap.size:=iX hx2;have P:=fV N;clear hx2 ow2 hk2 Q k3 E N
  go_wp21
  refine CC.out.mono ?_;rintro e w3 ⟨k4,rfl,a9,a7,A⟩;have a5:o.heap.size∉[u.heap.size]:=by have:=P.out;simp;omega
  have a6:w.heap.size∉[u.heap.size]:=by have:=Y.out;simp;omega
  have V3:Kvq w u.heap.size w.heap.size o.heap.size k4 c p d f l #[gh 0,gh 0,jc,gH jz,jc] w3:=
   ⟨a9,a7,(HE.out.kept H.out (by simp)).kept A (by have:=Y.out;simp;omega),A.at ah.out a6,A.at ab.out a5,by have:=Y.out;have:=P.out;omega,by have:=Y.out;have:=P.out;omega,ao,H.out.next A (by have:=Y.out;simp;omega)⟩
  have d0:=fW V3.r2 0;have f0:=gu V3.r2 0;dsimp at d0;have Z:=V3.set 0 (gh c);obtain⟨w4,S⟩:∃w4,w4=w3.setCell ⟨o.heap.size,0,none⟩ (gh c):=⟨_,rfl⟩;rw[<-S]at Z;have al:=fV S.symm;have CS:=fV (Kd u.heap.size d f l c p k4 w4 Z.px Z.st Z.er);have ai:=fV Z;clear a9 a7 A V3 Z S CC
  go_wp21
  rw[al.out];refine CS.out.mono ?_;rintro e w6 ⟨rfl,a3⟩;have V6:=ai.out.k0 a3;have g0:w6.cell? ⟨o.heap.size,0,none⟩=some (gh c):=by rw[fW V6.r2];rfl
  have g1:w6.cell? ⟨o.heap.size,1,none⟩=some (gh 0):=by rw[fW V6.r2];rfl
  have y1:=gu V6.r2 1;have V7:=V6.set 1 (gh p);obtain⟨w7,T⟩:∃w7,w7=w6.setCell ⟨o.heap.size,1,none⟩ (gh p):=⟨_,rfl⟩;rw[<-T]at V7;have am:=fV T.symm;have CL:=fV (MQ u.heap.size d f l p k4 w7 V7.px);have aj:=fV V7;clear a3 V6 V7 T CS
  go_wp21
  rw[am.out];refine CL.out.mono ?_;rintro e w8 ⟨rfl,a4⟩;have V8:=aj.out.k0 a4;have g2:w8.cell? ⟨o.heap.size,2,none⟩=some (jc):=by rw[fW V8.r2];rfl
  have y2:=gu V8.r2 2;have V9:=V8.set 2 (jc);obtain⟨w9,U⟩:∃w9,w9=w8.setCell ⟨o.heap.size,2,none⟩ (jc):=⟨_,rfl⟩;rw[<-U]at V9;have an:=fV U.symm;have CX:=fV (Nn u.heap.size d f l p k4 w9 V9.px);have ak:=fV V9;clear a4 V8 V9 U CL
  go_wp21
  rw[an.out];refine CX.out.mono ?_;rintro e aa ⟨rfl,J⟩;have F:=ak.out.k0 J;have g3:aa.cell? ⟨o.heap.size,3,none⟩=some (gH jz):=by rw[fW F.r2];rfl
  have y3:=gu F.r2 3;have G:=F.set 3 (gH jz);obtain⟨X,D⟩:∃X,X=aa.setCell ⟨o.heap.size,3,none⟩ (gH jz):=⟨_,rfl⟩;rw[<-D]at G;have a1:=fV D.symm;have CT:=fV (KO u.heap.size d f l p k4 X G.px);have a0:=fV G;clear J F G D CX
  go_wp21
  rw[a1.out];refine CT.out.mono ?_;rintro e q ⟨rfl,K⟩;have z:=a0.out.k0 K;have y:=z.r2;have a:=z.r1;have m0:q.cell? ⟨o.heap.size,0,none⟩=some (gh c):=by rw[fW y];rfl
  have m1:q.cell? ⟨o.heap.size,1,none⟩=some (gh p):=by rw[fW y];rfl
  have m2:q.cell? ⟨o.heap.size,2,none⟩=some (jc):=by rw[fW y];rfl
  have m3:q.cell? ⟨o.heap.size,3,none⟩=some (gH jz):=by rw[fW y];rfl
  have m4:q.cell? ⟨o.heap.size,4,none⟩=some (jc):=by rw[fW y];rfl
  have y4:=gu y 4;have u0:q.cell? ⟨w.heap.size,0,none⟩=some (gh 0):=by rw[fW a];rfl
  have u1:q.cell? ⟨w.heap.size,1,none⟩=some (gh 0):=by rw[fW a];rfl
  have u2:q.cell? ⟨w.heap.size,2,none⟩=some (jc):=by rw[fW a];rfl
  have u3:q.cell? ⟨w.heap.size,3,none⟩=some (gH jz):=by rw[fW a];rfl
  have u4:q.cell? ⟨w.heap.size,4,none⟩=some (jc):=by rw[fW a];rfl
  have j0:=gu a 0;have j1:=gu a 1;have j2:=gu a 2;have j3:=gu a 3;have j4:=gu a 4;have aq:w.heap.size≠o.heap.size:=z.ne;have a8:o.heap.size≠w.heap.size:=λh=>z.ne h.symm;have I:=fV z;clear z y a K CT;go_wp2;refine oR (v:= .tuple #[.agg #[gh c,gh p,jc,gH jz,jc],.bool true]) ?_ rfl ⟨_,_,_,_,_,_,rfl,?_,?_,?_⟩
  .simp[results,results8,asAddr,Result.andThen,go_sem,u0,u1,u2,u3,u4,aq,a8]
  .exact od _ _ _ _
  .exact od _ _ _ _
  .have m:=I.out.kp;have ap:=I.out.ge;exact(((((m.setCell (.inr ap) _).setCell (.inr (gW _)) _).setCell (.inr (gW _)) _).setCell (.inr (gW _)) _).setCell (.inr (gW _)) _).setCell (.inr (gW _)) _
def MR:Cf->Prop
 | .el e=>e.name.size<=5000/\e.ib.length<=16/\∀p∈e.ib,p.1.size<=5000/\p.2.size<=66000
 | .tx _=>True
 | .cm s=>s.size<=5000
 | .dt s=>s.size<=5000
def NG (σ:Ab):Prop:=σ.pG<=16/\∀n∈σ.nodes,MR n
structure TG (t:gO):Prop where
 name:t.name.size<=5000
 len:t.jx.length<=16
 gM:∀p∈t.jx,p.1.size<=5000/\p.2.size<=66000
 cm:∀s,t.k= .gR s->s.size<=5000
 dt:∀n q,t.k= .iy n q->n.size<=5000
def uu {α:Type} (r:qI α):Prop:=match r with
 | .ok _ σ'=>NG σ'
 | .stop e _=>e≠0
 | .stuck=>True
def Kp {α:Type} (m:M α):Prop:=∀σ,NG σ->uu (m σ)
def Kp.pure {α:Type} (a:α):Kp (Pure.pure a:M α):=λ_ h=>h
def Kp.stuck {α:Type}:Kp (stuck:M α):=λ_ _=>trivial
def Kp.bind {α u:Type} {m:M α} {f:α->M u} (h:Kp m) (t:∀a,Kp (f a)):Kp (m>>=f):=by
 intro σ q;rw[M.gE];have o:=h σ q;revert o;cases m σ with
 |ok a σ'=>intro o;exact t a σ' o
 |stop e p=>simp[uu]
 |stuck=>simp[uu]
theorem Kp.ite {α:Type} {c : Prop} [Decidable c] {a b:M α} (h:Kp a) (m:Kp b):Kp (if c then a else b):=by grind
def Kp.at {α:Type} {m:M α} (h:Kp m) (a:NG σ):uu (m σ):=h σ a
def NG.nD {σ' : Ab} (h:NG σ) (e1:σ'.nodes=σ.nodes) (e2:σ'.pG=σ.pG):NG σ':=⟨by rw[e2];exact h.1,by rw[e1];exact h.2⟩
def Kp.xA {f : Ab->Ab} (e1:∀σ,(f σ).nodes=σ.nodes) (e2:∀σ,(f σ).pG=σ.pG):Kp (xA f):=λσ h=>h.nD (e1 σ) (e2 σ)
theorem Kp.same {α:Type} {m:M α} (h:∀σ a o,m σ= .ok a o->o=σ) (u:∀σ c p,m σ≠ .stop c p):Kp m:=by
 intro σ x;have q:=h σ;have t:=u σ;revert q t;cases m σ with
 |ok a o=>grind[uu]
 |stop e p=>simp
 |stuck=>simp[uu]
def NG.el (h:NG σ) (a:σ.ij i=some e):MR (.el e):=h.2 _ (uy (Ab.jr a))
theorem NG.agE (h:NG σ) {n : Cf} (q:MR n):NG {σ with nodes:=σ.nodes.set i n}:=⟨h.1,λm o=>by
 rcases List.mem_or_eq_of_mem_set o with a|a
 .exact h.2 m a
 grind⟩
def NG.set (h:NG σ) (a:MR (.el e)):NG (σ.ig i e):=h.agE a
theorem NG.add (h:NG σ) {n : Cf} (q:MR n):NG (σ.add n):=⟨h.1,λm o=>by
 rcases List.mem_append.1 o with a|a
 .exact h.2 m a
 grind⟩
def NG.pN (h:NG σ) {n : Cf} (a:MR n) (b:Bool):NG (σ.pN n b):=(h.add a).nD rfl rfl
theorem MR.kids {e' : Ak} (h:MR (.el e)) (a:e'.name=e.name) (m:e'.ib=e.ib):MR (.el e'):=by
 grind[MR]
def uu.ok {α:Type} {a:α} (h:NG σ):uu (.ok a σ):=h
def Kp.fn {α:Type} {f:Ab->qI α} (h:∀σ,NG σ->uu (f σ)):Kp (α:=α) f:=h
attribute [simp] Kp.pure Kp.stuck Kp.bind Kp.ite
@[simp] def adM {f : Ab->Ab} (h:∀σ,(f σ).nodes=σ.nodes/\(f σ).pG=σ.pG):Kp (xA f):=Kp.xA (λσ=>(h σ).1) (λσ=>(h σ).2)
def CG (rec:Nat->gO->M Unit):Prop:=∀m t,TG t->Kp (rec m t)
@[simp] def Vh (σ:Ab):σ.nh.nodes=σ.nodes/\σ.nh.pG=σ.pG:=⟨rfl,rfl⟩
def uu.st {α:Type}:uu (α:=α) (.stop (n+1) p):=Nat.succ_ne_zero n
@[simp] def abu (σ:Ab) (p:gz->Bool):(σ.xU p).nodes=σ.nodes/\(σ.xU p).pG=σ.pG:=⟨rfl,rfl⟩
@[simp] def acX (pl:Nat×Nat) (j:Nat):Kp (nT pl j):=by
 intro σ h;unfold nT;split
 .rename_i o q a m;split
  .refine uu.ok (NG.set (NG.set h ?_) ?_);exact MR.kids (h.el a) rfl rfl;exact MR.kids (h.el m) rfl rfl
  .trivial
 .trivial
@[simp] def acZ (pl:Nat×Nat) (k:Nd):Kp (Aw pl k):=by
 intro σ h;unfold Aw;split
 .rename_i m a;split
  .exact uu.ok (NG.set h (MR.kids (h.el a) rfl rfl))
  .trivial
 .trivial
@[simp] def afz (pl:Nat×Nat) (s:gz):Kp (vH pl s):=by
 intro σ h;unfold vH;split
 .rename_i m a;split
  .split
   .split
    .split
     .exact uu.ok (NG.agE h (n:= .tx _) trivial)
     .trivial
    .trivial
   .exact uu.ok (NG.set (NG.add h (n:= .tx _) trivial) (MR.kids (h.el a) rfl rfl))
  .trivial
 .trivial
@[simp] def acW (x:jk):Kp (ya x):=by
 unfold ya;refine Kp.fn λσ h=>?_
 (repeat' split)<;>first|exact h|exact trivial|exact uu.st|exact uu.ok (h.nD rfl rfl)|exact Kp.at (by(repeat' first|with_reducible refine Kp.bind ?_ λ_=>?_|with_reducible refine Kp.ite ?_ ?_)<;>simp[*]) h
@[simp] def agW (a:gz) (m:a.size<=5000):Kp (GO a):=λ_ h=>uu.ok (NG.add h (n:= .el _) ⟨m,iN _,λ_ o=>by cases o⟩)
@[simp] def afo (t:gO) (a:TG t):Kp (qh t):=by
 intro σ h;unfold qh;split
 .exact uu.ok (NG.pN h (n:= .el _) ⟨a.name,a.len,a.gM⟩ _)
 .trivial
@[simp] def Y8 (p b:gz->Bool):Kp (nL p b):=by
 unfold nL;refine Kp.fn λσ h=>?_
 (repeat' split)<;>first|exact h|exact trivial|exact uu.st|exact uu.ok (h.nD rfl rfl)|exact Kp.at (by(repeat' first|with_reducible refine Kp.bind ?_ λ_=>?_|with_reducible refine Kp.ite ?_ ?_)<;>simp[*]) h
@[simp] def WN:Kp (ph):=by
 simp[ph]
@[simp] def agx (p:gz->Bool):Kp (qx p):=by refine Kp.xA (λσ=>?_) (λσ=>?_)<;>(unfold Ab.J8;split<;>rfl)
@[simp] def I6 (p:gz->Bool):Kp (vA p):=adM λ_=>⟨rfl,rfl⟩
@[simp] def Nf (m:Nat):Kp (jS m):=adM λ_=>⟨rfl,rfl⟩
@[simp] def Ri (x:jk):Kp (kL x):=by
 unfold kL;refine Kp.fn λσ h=>?_
 (repeat' split)<;>first|exact h|exact trivial|exact uu.st|exact uu.ok (h.nD rfl rfl)|exact Kp.at (by(repeat' first|with_reducible refine Kp.bind ?_ λ_=>?_|with_reducible refine Kp.ite ?_ ?_)<;>simp[*]) h
@[simp] def YI (x:jk):Kp (lc x):=by
 unfold lc;refine Kp.fn λσ h=>?_
 (repeat' split)<;>first|exact h|exact trivial|exact uu.st|exact uu.ok (h.nD rfl rfl)|exact Kp.at (by(repeat' first|with_reducible refine Kp.bind ?_ λ_=>?_|with_reducible refine Kp.ite ?_ ?_)<;>simp[*]) h
@[simp] def acJ (x y:jk):Kp (Av x y):=by
 unfold Av;refine Kp.fn λσ h=>?_
 (repeat' split)<;>first|exact h|exact trivial|exact uu.st|exact uu.ok (h.nD rfl rfl)|exact Kp.at (by(repeat' first|with_reducible refine Kp.bind ?_ λ_=>?_|with_reducible refine Kp.ite ?_ ?_)<;>simp[*]) h
@[simp] def UW (x y:jk):Kp (rX x y):=by
 unfold rX;refine Kp.fn λσ h=>?_
 (repeat' split)<;>first|exact h|exact trivial|exact uu.st|exact uu.ok (h.nD rfl rfl)|exact Kp.at (by(repeat' first|with_reducible refine Kp.bind ?_ λ_=>?_|with_reducible refine Kp.ite ?_ ?_)<;>simp[*]) h
@[simp] theorem Vd (i:Nat):∀L:lZ,(∀p∈L,p.1.size<=5000/\p.2.size<=66000)->Kp (qU i L)
 |[],_=>Kp.pure _
 |a::r,hL=>by
  intro σ h;have m:=Vd i r (λp t=>hL p (si _ t));unfold qU;split
  .trivial
  .rename_i e o;split
   .exact m σ h
   .split
    .simp[uu]
    .rename_i q;refine m _ (h.set ?_);have⟨a1,a2,a3⟩:=h.el o;have:=h.1
     grind[MR]
@[simp] def agS (i:Nat) (t:gO) (a:TG t):Kp (xg i t):=by
 intro σ h;unfold xg;split
 .exact Vd i _ a.gM σ h
 .trivial
@[simp] def IQ (i:Nat):Kp (lp i):=by
 intro σ h;unfold lp;split
 .rename_i e a;split
  .trivial
  .exact uu.ok (NG.add h (MR.kids (h.el a) rfl rfl))
 .trivial
@[simp] theorem abL (n:Nat):Kp (Gk n):=by
 unfold Gk;refine Kp.fn λσ h=>?_
 grind[uu]
@[simp] def PH (n:Nat):Kp (rD n):=by intro σ h;exact UW _ _ σ h
@[simp] def Yc (j:Nat):Kp (mW j):=by
 intro σ h;unfold mW;split
 .trivial
 .rename_i o a;split
  .exact h
  .split
   .trivial
   .rename_i q m;split
    .refine uu.ok (NG.set (NG.set h ?_) ?_);exact MR.kids (h.el m) rfl rfl;exact MR.kids (h.el a) rfl rfl
    .trivial
@[simp] def afA (pl:Nat×Nat) (k:Nd):Kp (FQ pl k):=by
 cases k with
 |el j=>simp[FQ]
 |tx j=>simp[FQ]
 |cm j=>simp[FQ]
 |dt j=>simp[FQ]
@[simp] theorem acO (n:Nat):Kp (GW n):=by
 unfold GW;refine Kp.fn λσ h=>?_
 grind[uu]
@[simp] def IC (rec:Nat->gO->M Unit) (t:gO) (a:CG rec) (m:TG t):Kp (kZ rec t):=λσ h=>a _ _ m σ h
@[simp] def Ry (pl:Nat×Nat) (nd:Cf) (k:Nat->Nd) (a:MR nd):Kp (pz pl nd k):=λσ h=>acZ _ _ _ (h.add a)
@[simp] def Rb (a:gz) (own:Bool) (gM:lZ) (m:a.size<=5000) (q:gM.length<=16) (o:∀p∈gM,p.1.size<=5000/\p.2.size<=66000):Kp (tX a own gM):=by
 intro σ h;unfold tX;split
 .split
  .exact uu.ok (NG.pN h (n:= .el _) ⟨m,q,o⟩ _)
  .trivial
 .exact uu.ok (NG.add h (n:= .el _) ⟨m,iN _,λ_ t=>by cases t⟩)
@[simp] def OK:Kp (pT):=by intro σ h;exact Ri _ σ h
@[simp] def Uj:Kp (pushHead):=by intro σ h;exact acW _ σ h
@[simp] def abR (rec:Nat->gO->M Unit) (t:gO) (a:CG rec) (h:TG t):Kp (uC rec t):=Kp.bind Uj λ_=>Kp.bind (a _ _ h) λ_=>Kp.bind OK λ_=>Kp.pure _
@[simp] def afP (of:gz) (pl:Bool):Kp (NM of pl):=adM λ_=>⟨rfl,rfl⟩
@[simp] def afQ:Kp (zt):=by intro σ h;unfold zt;split;exact h;exact WN σ h
@[simp] def ZF (rec:Nat->gO->M Unit) (t:gO) (a:CG rec) (h:TG t):Kp (uK rec t):=Kp.bind (Kp.xA (λ_=>rfl) (λ_=>rfl)) λ_=>Kp.bind (a _ _ h) λ_=>Kp.bind (Kp.xA (λ_=>rfl) (λ_=>rfl)) λ_=>Kp.pure _
@[simp] def afg (t:gO):Kp (pr t):=by
 unfold pr;split
 .refine Kp.ite (Kp.pure _) (Kp.fn λσ h=>?_);split
  .exact uu.ok (h.nD rfl rfl)
  .trivial
 simp
def abX (x:Nat×Nat×gz):TG (qQ x):=⟨iN _,iN _,(λ_ a=>by cases a),(λ_ h=>by cases h),(λ_ _ h=>by cases h)⟩
@[simp] def Gz (rec:Nat->gO->M Unit) (a:CG rec):∀h,Kp (uL rec h)
 |[]=>Kp.pure _
 |x::r=>Kp.bind (ZF rec _ a (abX x)) λ_=>Gz rec a r
@[simp] def agA:Kp (yu):=adM λ_=>⟨rfl,rfl⟩
def Nc:Ru->Bool
 | .ot _ name _=>decide (name.size<=5000)
 | .Om r=>Nc r
 |_=>true
def spG (sp:nc):Bool:=Nc sp.blank&&Nc sp.jM&&Nc sp.gR&&Nc sp.iy&&Nc sp.iR&&Nc sp.jG&&Nc sp.j8&&Nc sp.ir&&((sp.start.getD []).all λp=>Nc p.2)&&((sp.stop.getD []).all λp=>Nc p.2)
def adr:∀a∈xx,spG a=true:=List.all_eq_true.1 (by rfl)
theorem Vq:∀(R:List (List gz×Ru)) (k:gz) (r:Ru),(R.all λp=>Nc p.2)=true->pa R k=some r->Nc r=true
 |[],_,_,_,h=>by cases h
 |p::R,k,r,hR,h=>by
  rw[List.all_cons,sq]at hR;unfold pa at h;split at h
  .grind
  .exact Vq R k r hR.2 h
def tR:∀L:List Ru,(∀r∈L,Nc r=true)->Nc (j5 L)=true
 |[],_=>rfl
 |x::r,h=>by
  have a:=h x (yk ..);cases x with
  |nil=>exact tR r (λy m=>h y (si _ m))
  |_=>exact a
def Vp (R:Option (List (List gz×Ru))) (k:gz) (h:((R.getD []).all λp=>Nc p.2)=true):Nc (Bd R k)=true:=by
 cases R with
 |none=>rfl
 |some R=>
  show Nc ((pa R k).getD .nil)=true;cases hq:pa R k with
  |none=>rfl
  |some r=>exact Vq R k r h hq
theorem aaL {sp : nc} (h:spG sp=true) (t:gO):Nc (kj sp t)=true:=by
 unfold spG at h;simp only[sq]at h;have⟨⟨⟨⟨⟨⟨⟨⟨⟨h1,h2⟩,h3⟩,h4⟩,h5⟩,h6⟩,h7⟩,h8⟩,h9⟩,h10⟩:=h;unfold kj;split
 .split
  .exact tR _ (by grind)
  .exact tR _ (by grind)
 .exact tR _ (by grind)
 .exact tR _ (by grind)
 .exact tR _ (by simp[Vp _ _ h9,h6,h8])
 .exact tR _ (by simp[Vp _ _ h10,h7,h8])
 .exact tR _ (by grind)
 .exact tR _ (by grind)
@[simp] def C7 (a:M (Nat×Nat)) (t:gO) (h:Kp a) (o:TG t):Kp (ol a t):=by
 unfold ol;split
 .rename_i s m;exact Kp.bind h λ_=>Kp.bind (Ry _ _ _ (o.cm s m)) λ_=>Kp.pure _
 simp
@[simp] def nh0:(∀(x:jk),Kp (agb x)/\Kp (Bi x)/\Kp (CQ x)/\Kp (lK x))/\Kp yW/\Kp JN/\Kp zx/\Kp uH/\Kp BP/\Kp zz/\Kp Jj/\Kp yN/\Kp nu/\Kp wI/\(∀(x y:jk),Kp (ri x y)/\Kp (qL x y))/\(∀(s:gz),Kp (vD s))/\(∀(f:Nat),Kp (ahead f))/\(∀(a:Nat->gO->M Unit) (t:gO) (u:CG a) (o:TG t),Kp (mc a t)/\Kp (zA a t)/\Kp (wW a t)/\Kp (qR a t))/\(∀(t:gO) (o:TG t),Kp (pn t)/\Kp (qT t))/\(∀(t:gO),Kp (yK t))/\(∀(q:List gz) (m:Nat),Kp (sM q m)):=by
 (repeat' first|with_reducible intro _|with_reducible apply And.intro)<;>delta agb yW Bi CQ ri qL lK JN vD ahead mc pn qT zx zA yK uH BP zz Jj wW qR sM yN nu wI<;>(repeat' first|with_reducible refine Kp.bind ?_ λ_=>?_|with_reducible refine Kp.ite ?_ ?_)<;>first|(simp[*];done)|(refine Kp.fn λσ h=>?_;(repeat' split)<;>first|exact h|exact trivial|exact uu.st|exact uu.ok (h.nD rfl rfl)|exact Kp.at (by(repeat' first|with_reducible refine Kp.bind ?_ λ_=>?_|with_reducible refine Kp.ite ?_ ?_)<;>simp[*]) h)
@[simp] def N9 (i:Nat):Kp (jC i):=Kp.same (λ_ _ _ h=>pQ h) (λσ c p=>rI _ σ c p)
@[simp] def ae4 (i:Nat):Kp (ng i):=Kp.same (λ_ _ _ h=>Ci h) (λσ c p=>As _ σ c p)
@[simp] def abw:Kp (ku):=Kp.same (λ_ _ _ h=>pk h) (λσ c p=>xe σ c p)
@[simp] def ag2 (i:Nat):Kp (NF i):=by
 intro σ h;unfold NF;dsimp only;split
 .refine Kp.at ?_ h;simp[*]
 .refine Kp.at ?_ h;simp[*]
@[simp] def Ve (d:Nat):∀a,Kp (yQ d a)
 |[]=>Kp.pure _
 |k::r=>Kp.bind (N9 _) λ_=>Kp.bind (afA _ _) λ_=>Ve d r
@[simp] def ae6 (b d:Nat):Kp (handOver b d):=by
 intro σ h;unfold handOver;split
 .trivial
 .split
  .trivial
  .refine Kp.at (Kp.bind (Ve _ _) λ_=>Kp.fn λo a=>?_) h;split
   .rename_i q m;exact uu.ok (NG.set a (MR.kids (a.el m) rfl rfl))
   .trivial
@[simp] def M9 (f m:Nat):∀n c last a,Kp (mP f m n c last a)
 |0,_,_,_=>Kp.pure _
 |n+1,c,last,a=>by
  have q:=λc last a=>M9 f m n c last a;unfold mP;refine Kp.bind (acO _) λe=>Kp.ite (Kp.pure _) (Kp.bind (Kp.ite (YI _) (Kp.pure _)) λ_=>Kp.fn λσ h=>?_)
  by_cases o:some e∉σ.act
  .rw[gJ o];exact Kp.at (Kp.bind (Ri _) λ_=>q _ _ _) h
  .rw[gV o];exact Kp.at (Kp.bind (IQ _) λ_=>Kp.bind (acJ _ _) λ_=>Kp.bind (UW _ _) λ_=>Kp.bind (Yc _) λ_=>Kp.bind (N9 _) λ_=>Kp.bind (acX _ _) λ_=>q _ _ _) h
@[simp] def agz (f a:Nat):Kp (xn f a):=λσ h=>M9 _ _ _ _ _ _ σ h
@[simp] def Zi:Kp (C8):=by
 simp[C8]
@[simp] def Yx (t:gO) (h:TG t):Kp (oX t):=by
 unfold oX;split
 .rename_i n q a;exact Kp.bind Zi λ_=>Kp.bind (Ry _ _ _ (h.dt n q a)) λ_=>by simp
 .simp
@[simp] def JZ (own:Bool) (gM:lZ) (h:gM.length<=16) (a:∀p∈gM,p.1.size<=5000/\p.2.size<=66000):Kp (sE own gM):=by
 unfold sE;refine Kp.bind (Rb _ _ _ (by decide) h a) λ_=>?_
 (repeat' first|with_reducible refine Kp.bind ?_ λ_=>?_|with_reducible refine Kp.ite ?_ ?_)<;>simp[*]
@[simp] def aer (t:gO) (a:TG t):Kp (y8 t):=Kp.bind (JZ _ _ a.len a.gM) λ_=>Kp.pure _
@[simp] def aej:Kp (sE false []):=JZ _ _ (by decide) (λ_ a=>by cases a)
@[simp] theorem TB:Kp qS:=by
 unfold qS;refine Kp.fn λσ h=>?_;split
 all_goals grind[uu,jC]
@[simp] def nh1:(∀(i:Nat),Kp (placeFor i))/\Kp Ac/\Kp BO/\Kp zC/\Kp nf/\Kp rJ/\Kp Fw/\Kp jn/\(∀(a:Nat->gO->M Unit) (t:gO) (m:CG a) (o:TG t),Kp (tz a t))/\(∀(t:gO),Kp (yM t)):=by
 (repeat' first|with_reducible intro _|with_reducible apply And.intro)<;>delta placeFor Ac tz BO zC yM nf rJ Fw jn<;>(repeat' first|with_reducible refine Kp.bind ?_ λ_=>?_|with_reducible refine Kp.ite ?_ ?_)<;>first|(simp[*];done)|(refine Kp.fn λσ h=>?_;(repeat' split)<;>first|exact h|exact trivial|exact uu.st|exact uu.ok (h.nD rfl rfl)|exact Kp.at (by simp) h)
@[simp] def aau:Kp (mh):=by
 unfold mh;refine Kp.fn λσ h=>?_
 (repeat' split)<;>first|exact h|exact trivial|exact uu.st|exact uu.ok (h.nD rfl rfl)|exact Kp.at (by simp) h
@[simp] def Xn (j:Nat):Kp (mn j):=by
 unfold mn
 (repeat' first|with_reducible refine Kp.bind ?_ λ_=>?_|with_reducible refine Kp.ite ?_ ?_)<;>simp[*]
@[simp] theorem vn (a:gz) (h:a.size<=5000):Kp (ky a):=by
 unfold ky
 simp_all
@[simp] theorem QL (t:gO) (a:TG t):Kp (jv t):=by
 unfold jv
 simp_all
@[simp] def Oo (t:gO):Kp (kC t):=by
 simp[kC]
@[simp] def aaH:∀k n,Kp (H8 k n)
 |0,_=>Kp.pure _
 |k+1,n=>by
  have a:=λn=>aaH k n;unfold H8;refine Kp.bind (abL _) λ_=>Kp.bind (IQ _) λ_=>Kp.bind (Xn _) λ_=>Kp.bind (PH _) λ_=>a _
@[simp] def aby:Kp me:=λσ h=>aaH _ _ σ h
@[simp] def J0 (own:Bool) (gM:lZ) (h:gM.length<=16) (a:∀p∈gM,p.1.size<=5000/\p.2.size<=66000):Kp (sF own gM):=by
 unfold sF;refine Kp.bind (Rb _ _ _ (by decide) h a) λ_=>?_
 (repeat' first|with_reducible refine Kp.bind ?_ λ_=>?_|with_reducible refine Kp.ite ?_ ?_)<;>simp[*]
@[simp] def aes (t:gO) (a:TG t):Kp (y9 t):=Kp.bind (J0 _ _ a.len a.gM) λ_=>Kp.pure _
@[simp] def aek:Kp (sF false []):=J0 _ _ (by decide) (λ_ a=>by cases a)
@[simp] def acq:Kp (ky gI):=vn _ (by decide)
@[simp] def afS:Kp (ky nG):=vn _ (by decide)
@[simp] def afa:Kp (ky kq):=vn _ (by decide)
@[simp] def O1 (t:gO) (a:TG t):Kp (nE t):=by
 unfold nE
 (repeat' first|with_reducible refine Kp.bind ?_ λ_=>?_|with_reducible refine Kp.ite ?_ ?_)<;>simp[*]
@[simp] def GJ:∀a,Kp (uN a)
 |[]=>Kp.pure _
 |x::r=>Kp.bind (Oo _) λ_=>GJ r
@[simp] def NK (rec:Nat->gO->M Unit) (a:CG rec):Kp (qN rec):=by
 intro σ h;unfold qN;split
 .exact Gz rec a _ σ h
 .exact GJ _ σ h
@[simp] def Yv (a rec:Nat->gO->M Unit) (t:gO) (h:CG a) (m:CG rec) (o:TG t):Kp (oU a rec t):=
 Kp.bind (NK a h) λ_=>Kp.bind (Kp.xA (λ_=>rfl) (λ_=>rfl)) λ_=>Kp.bind (IC rec t m o) λ_=>Kp.pure _
@[simp] def ab0 (h:Nat) (own:Bool) (t:gO) (a:TG t):Kp (tQ h own t):=by
 unfold tQ;exact Kp.ite (C7 _ _ aau a) (Kp.ite (C7 _ _ TB a) (Kp.ite (C7 _ _ (N9 _) a) Kp.stuck))
@[simp] def nh2:(∀(t:gO) (q:TG t),Kp (lL t)/\Kp (lQ t)/\Kp (abp t)/\Kp (oh t)/\Kp (xy t)/\Kp (oP t)/\Kp (abq t)/\Kp (tk t)/\Kp (pY t)/\Kp (mH t)/\Kp (rS t)/\Kp (kA t)/\Kp (jB t))/\(∀(f o:Nat),Kp (tW f o))/\(∀(a:Nat->gO->M Unit) (t:gO) (y:CG a) (q:TG t),Kp (tA a t)/\Kp (n4 a t)/\Kp (pH a t)/\Kp (DT a t))/\(∀(t:gO) (x:Bool) (q:TG t),Kp (oG t x))/\Kp tw/\Kp Qn/\Kp vC/\(∀(u:List gz) (m:Nat),Kp (lG u m))/\(∀(t:gO),Kp (pP t)):=by
 (repeat' first|with_reducible intro _|with_reducible apply And.intro)<;>delta lL lQ tW tA n4 abp pH oG DT oh xy oP abq tk tw Qn vC pY mH lG rS pP kA jB<;>(repeat' first|with_reducible refine Kp.bind ?_ λ_=>?_|with_reducible refine Kp.ite ?_ ?_)<;>first|(simp[*];done)|(refine Kp.fn λσ h=>?_;(repeat' split)<;>first|exact h|exact trivial|exact uu.st|exact uu.ok (h.nD rfl rfl)|exact Kp.at (by(repeat' first|with_reducible refine Kp.bind ?_ λ_=>?_|with_reducible refine Kp.ite ?_ ?_)<;>simp[*]) h)
@[simp] def PM (s:gz):Kp (nZ s):=by
 unfold nZ;refine Kp.fn λσ h=>?_
 (repeat' split)<;>first|exact h|exact trivial|exact uu.st|exact uu.ok (h.nD rfl rfl)|exact Kp.at (by simp) h
@[simp] def YO (s:gz):∀n,Kp (tP s n)
 |0=>Kp.pure _
 |n+1=>Kp.bind (PM _) λ_=>Kp.ite (YO s n) (Kp.pure _)
@[simp] def nh3:(∀(t:gO) (m:TG t),Kp (tI t)/\Kp (ja t)/\Kp (vc t)/\Kp (pB t)/\Kp (yc t)/\Kp (pK t)/\Kp (pM t)/\Kp (rp t)/\Kp (pL t)/\Kp (mf t))/\(∀(s:gz),Kp (xS s))/\(∀(a:Nat->gO->M Unit) (t:gO) (o:CG a) (m:TG t),Kp (lj a t))/\Kp uG/\Kp endCell:=by
 (repeat' first|with_reducible intro _|with_reducible apply And.intro)<;>delta tI ja xS vc pB yc pK pM rp pL lj uG endCell mf<;>(repeat' first|with_reducible refine Kp.bind ?_ λ_=>?_|with_reducible refine Kp.ite ?_ ?_)<;>first|(simp[*];done)|(refine Kp.fn λσ h=>?_;(repeat' split)<;>first|exact h|exact trivial|exact uu.st|exact uu.ok (h.nD rfl rfl)|exact Kp.at (by simp) h)
@[simp] def Zs {f : Nat} {b:M Bool} (h:DX f=some b):Kp b:=by
 unfold DX at h
 repeat' (split at h)
 all_goals (cases h<;>simp)
@[simp] def nh4:(∀(t:gO) (a:TG t),Kp (qt t)/\Kp (rT t)/\Kp (abr t))/\(∀(t:gO),Kp (qo t)):=by
 (repeat' first|with_reducible intro _|with_reducible apply And.intro)<;>delta qt rT abr qo<;>(repeat' first|with_reducible refine Kp.bind ?_ λ_=>?_|with_reducible refine Kp.ite ?_ ?_)<;>first|(simp[*];done)|(refine Kp.fn λσ h=>?_;(repeat' split)<;>first|exact h|exact trivial|exact uu.st|exact uu.ok (h.nD rfl rfl)|exact Kp.at (by(repeat' first|with_reducible refine Kp.bind ?_ λ_=>?_|with_reducible refine Kp.ite ?_ ?_)<;>simp[*]) h)
@[simp] theorem nh5:(∀(t:gO) (a:TG t),Kp (tG t)):=by
 (repeat' first|with_reducible intro _|with_reducible apply And.intro)<;>delta tG<;>(simp_all)<;>first|(simp[*];done)|(refine Kp.fn λσ h=>?_;(repeat' split)<;>first|exact h|exact trivial|exact uu.st|exact uu.ok (h.nD rfl rfl)|exact Kp.at (by(repeat' first|with_reducible refine Kp.bind ?_ λ_=>?_|with_reducible refine Kp.ite ?_ ?_)<;>simp[*]) h)
@[simp] def acA (h:Bool) (a rec:Nat->gO->M Unit) (t:gO) (f:Nat) (m:CG a) (o:CG rec) (q:TG t):Kp (Q7 h a rec t f):=by
 unfold Q7
 (repeat' with_reducible refine Kp.ite ?_ ?_)<;>simp[*]
@[simp] def QA (x:Bool) (a rec:Nat->gO->M Unit) (t:gO) (y:CG a) (q:CG rec) (o:TG t):∀r,Nc r=true->Kp (oo x a rec r t)
 | .nil,_=>Kp.stuck
 | .nothing,_=>Kp.pure _
 | .ik f,_=>acA x a rec t f y q o
 | .pO m,_=>Kp.ite (q _ _ o) Kp.stuck
 | .gR pf own,_=>ab0 pf own t o
 | .ahead f,_=>by
  show Kp (match DX f with|some b=>ym rec b t|none=>stuck)
  cases hb:DX f with
  |none=>simp
  |some b=>exact Kp.bind (Zs hb) λ_=>Kp.ite (Kp.bind (IC rec t q o) λ_=>Kp.pure _) (Kp.pure _)
 | .ends f,_=>by
  show Kp (match DX f with|some b=>D5 b|none=>stuck)
  cases hb:DX f with
  |none=>simp
  |some b=>exact Kp.bind (Zs hb) λ_=>Kp.pure _
 | .Om r,h=>by
  have z:=QA x a rec t y q o r h;intro σ u;show uu (LG (oo x a rec r t) t σ);unfold LG;split
  .exact z σ u
  .exact u
 | .sA ks m,_=>Kp.ite (Kp.bind (I6 _) λ_=>Kp.bind (QL t o) λ_=>Kp.bind (Nf _) λ_=>Kp.pure _) Kp.stuck
 | .ot ks name m,h=>Kp.ite (Kp.bind (I6 _) λ_=>Kp.bind (vn _ (of_decide_eq_true h)) λ_=>Kp.bind (Nf _) λ_=>Kp.bind (IC rec t q o) λ_=>Kp.pure _) Kp.stuck
 | .item ks,_=>Kp.bind (Y8 _ _) λ_=>Kp.bind (O1 t o) λ_=>Kp.pure _
@[simp] theorem Pd:∀(n:Nat) (h:Bool) (m:Nat) (t:gO),TG t->Kp (ie h n m t)
 |0,_,_,_,_=>Kp.stuck
 |n+1,h,m,t,o=>by
  by_cases q:t.k= .lost
  .have e:ie h (n+1) m t=stuck:=by
    have⟨a,b,k,gM⟩:=t;cases q;rfl
   simp_all
  .rw[KJ h n m t q];unfold asM;cases hs:xx[m]? with
   |none=>simp
   |some sp=>exact QA h _ _ t (λm t o=>Pd n true m t o) (λm t o=>Pd n h m t o) o _ (aaL (adr sp (uy hs)) t)
@[simp] def UT (n:Nat) (t:gO) (o:TG t):Kp (qJ (ie false n) t):=by
 have q:Kp (α:=Unit) (λσ:Ab=>if σ.behind&&la t.chars Cz then qI.ok () {σ with behind:=false,gS:=t.a} else kZ (ie false n) t {σ with behind:=false,gS:=t.a}):=by
  refine Kp.fn λσ h=>?_;have u:NG {σ with behind:=false,gS:=t.a}:=h.nD rfl rfl;split
  .exact u
  .exact IC _ t (λm t o=>Pd n false m t o) o _ u
 have⟨a,b,k,gM⟩:=t;cases k with
 |lost=>simp[qJ]
 |_=>exact q
def TkN:UR->Prop
 | .Uw nm L=>nm.size<=5000/\L.length<=16/\∀p∈L,p.1.size<=5000/\p.2.size<=66000
 | .fin nm L=>nm.size<=5000/\L.length<=16/\∀p∈L,p.1.size<=5000/\p.2.size<=66000
 | .Yu t=>t.size<=5000
 | .dtp nm _=>nm.size<=5000
 |_=>True
def YC:AP->Prop
 | .stop=>True
 | .tok k _=>TkN k
def zN (h:s.size<=1024):(pc s).size<=5000:=by have:=xj s;omega
def yp (s:gz) (a b:Nat):(s.extract a b).size<=s.size:=by simp[ByteArray.size_extract];omega
def VP (a:R.cs.size<=1024) (ps:Nat):(zd R ps).size<=5000:=zN (by rw[tj];have:=yp R.cs ps (zc R ps);omega)
def WD (a:R.cs.size<=1024) (ps:Nat):(BK R ps).size<=5000:=zN (by rw[tj];have:=yp R.cs ps (kJ R ps);omega)
def aeV (a:R.cs.size<=1024) (ps:Nat):(Tq R ps).size<=5000:=zN (by rw[tj];have:=yp R.cs (dtA R ps) (Gv R ps);omega)
def Yk (h:∀x t,look x=some t->t.size<=16) (u:R.cs.size<=1024) (ps:Nat):(sU look lg R ps).size<=66000:=by
 unfold sU;split
 .have a:=xj ⟨(vY look lg (nw R (mY R (mY R ps+1)))).toArray⟩;have m:=Bu (lg:=lg) h (nw R (mY R (mY R ps+1)));have o:=Dp (R:=R) (ps:=mY R (mY R ps+1));have q:(ByteArray.mk (vY look lg (nw R (mY R (mY R ps+1)))).toArray).size=(vY look lg (nw R (mY R (mY R ps+1)))).length:=by simp[ByteArray.size]
  omega
 .decide
theorem trimSuffix_le (s p:List UInt8):(Lib.trimSuffix s p).length<=s.length:=by unfold Lib.trimSuffix;grind
def MU (s:gz):(zM s).size<=s.size:=by
 have e:∀l:List UInt8,(ByteArray.mk l.toArray).size=l.length:=λl=>by rfl
 have e1:s.size=s.data.toList.length:=DE s;unfold zM;split
 .rw[e,e1];exact trimSuffix_le _ _
 split
 .rw[e,e1];exact trimSuffix_le _ _
 split
 .rw[e,e1];exact trimSuffix_le _ _
 simp
def Qa (R:RC) (a:Nat):∀(n i:Nat),R.cs.size - i<=n->(qf R a i).size<=R.cs.size
 |0,i,h=>by
  rw[qf.eq_1 R a i,gV (by omega)];exact j7 (MU _) (yp _ _ _)
 |n+1,i,h=>by
  rw[qf.eq_1 R a i];split
  .split
   .exact yp _ _ _
   .split
    .exact yp _ _ _
    .exact Qa R a n (i+1) (by omega)
  .exact j7 (MU _) (yp _ _ _)
def Tj (R:RC) (ps:Nat):(oB R ps).size<=R.cs.size:=by
 unfold oB;split
 .exact iN _
 split
 .exact iN _
 .exact Qa R _ _ _ (gW _)
theorem Yp (h:∀x t,look x=some t->t.size<=16) (m:R.cs.size<=1024) {L : lZ} (o:∀p∈L,p.1.size<=5000/\p.2.size<=66000):∀p∈rV R look lg L ps,p.1.size<=5000/\p.2.size<=66000:=by
 unfold rV vN;split
 .exact o
 .intro p q;rcases List.mem_append.1 q with a|a
  .grind
  .obtain rfl:=List.mem_singleton.1 a;exact⟨WD m _,Yk h m _⟩
theorem Nl {L : lZ} (h:R.cs.size<=ps):mg R look lg L ps= .lost:=by
 have a:=tE (R:=R) (ps:=ps)
 grind[mg]
theorem adB (u:∀x t,look x=some t->t.size<=16) (A:R.cs.size<=1024) (F:R.at_<=16):∀(n:Nat) {L:lZ} {ps m:Nat} {h:lZ},R.cs.size - ps<=n->mg R look lg L ps= .whole m h->L.length<=16->(∀p∈L,p.1.size<=5000/\p.2.size<=66000)->h.length<=16/\∀p∈h,p.1.size<=5000/\p.2.size<=66000:=by
 intro n
 induction n with
 |zero=>
  intro L ps m h z a;rw[Nl (by omega)]at a;cases a
 |succ n ih=>
  intro L ps m h z a H q;have C:=tE (R:=R) (ps:=ps);rw[mg]at a;split at a
  .split at a
   .grind
   .split at a
    .cases a
    .rename_i y _ o;have D:=xi (R:=R) (ps:=jj R ps);have E:=zg (R:=R) (ps:=kJ R (jj R ps))
     by_cases G:kJ R (jj R ps)=R.cs.size
     .rw[Nl (by omega)]at a;cases a
     .refine ih (by omega) a ?_ (Yp u A q);unfold zZ at o;unfold rV vN
      grind
  grind
theorem aet (q:∀x t,look x=some t->t.size<=16) (y:R.cs.size<=1024) (o:R.at_<=16) {a : gz->lZ->UR} (u:∀L,L.length<=16->(∀p∈L,p.1.size<=5000/\p.2.size<=66000)->TkN (a nm L)):YC (uh R a nm (mg R look lg [] ps)):=by
 cases h:mg R look lg [] ps with
 |stop=>trivial
 |lost=>trivial
 |whole m L=>
  have:=adB q y o _ (gW _) h (iN _) (by simp)
  grind[YC,uh]
def adm {h : Nat} (u:∀x t,look x=some t->t.size<=16) (a:R.cs.size<=1024) (q:R.at_<=16):YC (nj R look lg h ps):=by
 unfold nj;split
 .exact aet u a q (λL m o=>⟨VP a _,m,o⟩)
 split
 .trivial
 split
 .trivial
 .exact zN (j7 (yp _ _ _) a)
def afl {o : Nat} (m:∀x t,look x=some t->t.size<=16) (a:R.cs.size<=1024) (h:R.at_<=16):YC (rL R look lg o ps):=by
 unfold rL;split
 .exact aet m a h (λL q u=>⟨VP a _,q,u⟩)
 split
 .exact adm m a h
 split
 .exact zN (j7 (Tj _ _) a)
 split
 .exact aeV a _
 split
 .exact zN (j7 (yp _ _ _) a)
 split
 .exact zN (j7 (yp _ _ _) a)
 .trivial
def aah (h:∀x t,look x=some t->t.size<=16) (m:R.cs.size<=1024) (a:R.at_<=16):YC (kR R look lg ps):=by
 unfold kR;split
 .trivial
 split
 .split
  .exact afl (R:=uM R ps) h m a
  .trivial
 .unfold Aa;split<;>trivial
def TkN.tg {k : UR} (h:TkN k) (a b:Nat):TG (qd a b k):=by
 cases k with
 |Uw nm L=>exact⟨h.1,h.2.1,h.2.2,(λ_ h=>by cases h),(λ_ _ h=>by cases h)⟩
 |fin nm L=>exact⟨h.1,h.2.1,h.2.2,(λ_ h=>by cases h),(λ_ _ h=>by cases h)⟩
 |Yu t=>exact⟨iN _,iN _,(λ_ m=>by cases m),(λs e=>by cases e;exact h),(λ_ _ h=>by cases h)⟩
 |dtp n q=>exact⟨iN _,iN _,(λ_ m=>by cases m),(λ_ h=>by cases h),(λn q e=>by cases e;exact h)⟩
 |Xe=>exact⟨iN _,iN _,(λ_ m=>by cases m),(λ_ h=>by cases h),(λ_ _ h=>by cases h)⟩
 |Y7 t=>exact⟨iN _,iN _,(λ_ m=>by cases m),(λ_ h=>by cases h),(λ_ _ h=>by cases h)⟩
 |lost=>exact⟨iN _,iN _,(λ_ m=>by cases m),(λ_ h=>by cases h),(λ_ _ h=>by cases h)⟩
theorem RK (z:∀x t,look x=some t->t.size<=16) (A:R.cs.size<=1024) (y:R.at_<=16):∀(n ps:Nat) (σ:Ab) (L:List Sp),NG σ->∀c p,nP R look lg cut n ps σ L= .stop c p->c≠0:=by
 intro n
 induction n with
 |zero=>simp[nP]
 |succ n ih=>
  intro ps σ L q c p h;rw[nP]at h;have o:=aah (R:=QR R σ.nJ σ.iY) (look:=look) (lg:=lg) (ps:=ps) z A y;revert h o;cases kR (QR R σ.nJ σ.iY) look lg ps with
  |stop=>grind
  |tok k m=>
   intro h o;dsimp only at h;have a:=UT xf _ (TkN.tg o (cut ps) (cut m)) (xu R σ ps (qd (cut ps) (cut m) k)) (q.nD rfl rfl);revert h a;cases qJ (ie false xf) (qd (cut ps) (cut m) k) (xu R σ ps (qd (cut ps) (cut m) k))with
   |stuck=>simp
   |stop c p=>intro h a;cases h;exact a
   |ok u σ2=>
    intro h a;dsimp only at h;split at h
    .cases h
    .exact ih _ _ _ a _ _ h
def XQ (C:∀x t,look x=some t->t.size<=16) (D:R.cs.size<=1024) (A:R.at_<=16):∀(n ps:Nat) (σ:Ab) (L:List Sp),NG σ->∀a z,nP R look lg cut n ps σ L= .done a z->NG a:=by
 intro n
 induction n with
 |zero=>simp[nP]
 |succ n ih=>
  intro ps σ L y a z h;rw[nP]at h;have q:=aah (R:=QR R σ.nJ σ.iY) (look:=look) (lg:=lg) (ps:=ps) C D A;revert h q;cases kR (QR R σ.nJ σ.iY) look lg ps with
  |stop=>simp
  |tok k m=>
   intro h q;dsimp only at h;have o:=UT xf _ (TkN.tg q (cut ps) (cut m)) (xu R σ ps (qd (cut ps) (cut m) k)) (y.nD rfl rfl);revert h o;cases qJ (ie false xf) (qd (cut ps) (cut m) k) (xu R σ ps (qd (cut ps) (cut m) k))with
   |stuck=>simp
   |stop c p=>simp
   |ok u σ2=>
    intro h o;dsimp only at h;split at h
    .cases h;exact o
    .exact ih _ _ _ o _ _ h
def adY {d f l a : Nat} (h:l<=16):NG (S0 d f l a):=⟨h,λn m=>by
 have e:n= .el ⟨⟨#[]⟩,[],none,[]⟩:=by
  have:n∈[Cf.el ⟨⟨#[]⟩,[],none,[]⟩]:=m;exact List.mem_singleton.1 this
 rw[e];exact⟨by decide,by decide,λ_ o=>by cases o⟩⟩
theorem XS (d f l:Nat) (s:gz) (o:s.size<=1024) (m:l<=16) {a : Ab} (h:Bk d f l s= .done a L):NG a:=
 XQ (R:=sG s l .nilFunc 0) x7 (by have:=DS s;grind[sG]) (by grind[sG]) _ _ _ _ (adY m) _ _ h
theorem RL (d f l:Nat) (s:gz) (m:s.size<=1024) (a:l<=16) (h:Bk d f l s= .stop c p):c≠0:=
 RK (R:=sG s l .nilFunc 0) x7 (by have:=DS s;grind[sG]) (by grind[sG]) _ _ _ _ (adY a) _ _ h
def Hw:Tn:= .tx ⟨#[]⟩
def Pg (σ:Ab):Nat->Nd->Tn
 |0,_=>Hw
 |k+1,.el i=>match σ.ij i with
  |some e=> .el e.name e.ib (e.kids.map (Pg σ k))
  |none=>Hw
 |_+1,.tx i=>match σ.nodes[i]? with
  |some (.tx s)=> .tx s
  |_=>Hw
 |_+1,.cm i=>match σ.nodes[i]? with
  |some (.cm s)=> .cm s
  |_=>Hw
 |_+1,.dt i=>match σ.nodes[i]? with
  |some (.dt s)=> .dt s
  |_=>Hw
def QQ (g:Nd->Tn) (f:Nd->Nd):∀a:List Nd,(∀k∈a,jL w (g k) (f k))->rC w (a.map g) (a.map f)
 |[],_=>by simp[rC]
 |k::a,h=>by
  simp only[Aj,rC];exact⟨h k (yk ..),QQ g f a (λx m=>h x (si _ m))⟩
theorem Vm {E : Env} {L : Loc} (h:Rel E L σ w) (m:jK r σ) (o:∀i,i < σ.nodes.length->r i<=B):∀(k:Nat) (a:Nd),σ.jo a=true->(∀i,a= .el i->B - r i+1 < k)->1<=k->jL w (Pg σ k a) (Nd.map L.gS a)
 |0,_,_,_,h1=>absurd h1 (by omega)
 |k+1,.el i,hk,hi,_=>by
  have⟨e,he⟩:=Option.isSome_iff_exists.1 (show(σ.ij i).isSome=true from hk);have⟨a1,a2,a3⟩:=h.tL i _ (Ab.jr he);have z:=hi i rfl;show jL w (match σ.ij i with|some e=> .el e.name e.ib (e.kids.map (Pg σ k))|none=>Hw) (.el (L.gS i))
  rw[he];simp only[jL];refine⟨_,_,_,_,⟨a1.iC,jR a1.row (iN _),a1.le,a1.U0⟩,a2,a3,?_⟩;refine QQ (Pg σ k) (Nd.map L.gS) e.kids ?_;intro x q;refine Vm h m o k x (m.oT.kd i e he x q) ?_ (by omega);intro j t;subst t;have⟨ej,g1,g2⟩:=m.oT.dn i e j he (yT.2 q);have u:=m.ur.jl j ej i g1 g2;have y:=o j (Ab.iq g1);omega
 |k+1,.tx i,hk,_,_=>by
  unfold Ab.jo at hk;show jL w (match σ.nodes[i]? with|some (.tx s)=> .tx s|_=>Hw) (.tx (L.gS i))
  cases hq:σ.nodes[i]? with
  |none=>grind
  |some a=>
   cases a with
   |tx s=>simp only[jL];exact h.tL i _ hq
   |el e=>grind
   |cm s=>grind
   |dt s=>grind
 |k+1,.cm i,hk,_,_=>by
  unfold Ab.jo at hk;show jL w (match σ.nodes[i]? with|some (.cm s)=> .cm s|_=>Hw) (.cm (L.gS i))
  cases hq:σ.nodes[i]? with
  |none=>grind
  |some a=>
   cases a with
   |cm s=>simp only[jL];exact h.tL i _ hq
   |el e=>grind
   |tx s=>grind
   |dt s=>grind
 |k+1,.dt i,hk,_,_=>by
  unfold Ab.jo at hk;show jL w (match σ.nodes[i]? with|some (.dt s)=> .dt s|_=>Hw) (.dt (L.gS i))
  cases hq:σ.nodes[i]? with
  |none=>grind
  |some a=>
   cases a with
   |dt s=>simp only[jL];exact h.tL i _ hq
   |el e=>grind
   |tx s=>grind
   |cm s=>grind
mutual
def KF:Tn->Nat
 | .el _ _ ks=>1+szS ks
 | .tx _=>1
 | .cm _=>1
 | .dt _=>1
def szS:List Tn->Nat
 |[]=>0
 |t::ts=>KF t+szS ts
end
def DA (σ:Ab):Nat->Nd->List Nat
 |0,_=>[]
 |k+1,.el i=>i::(match σ.ij i with
  |some e=>e.kids.flatMap (DA σ k)
  |none=>[])
 |_+1,_=>[]
def kl (σ:Ab) (i:Nat):Nat:=match σ.ij i with
 |some e=>e.kids.length
 |none=>0
theorem VO (f:Nd->Tn) (g:Nd->List Nat) (h:Nat->Nat):∀a:List Nd,(∀k∈a,KF (f k)<=1+((g k).map h).sum)->szS (a.map f)<=a.length+((a.flatMap g).map h).sum
 |[],_=>by simp[szS]
 |k::a,hk=>by
  have o:=hk k (yk ..);have q:=VO f g h a (λx m=>hk x (si _ m))
  grind[szS]
theorem aa5 (σ:Ab):∀(k:Nat) (a:Nd),KF (Pg σ k a)<=1+((DA σ k a).map (kl σ)).sum
 |0,a=>by
  have e:Pg σ 0 a=Hw:=by cases a<;>rfl
  rw[e];simp[Hw,KF]
 |k+1,.el i=>by
  show KF (match σ.ij i with|some e=> .el e.name e.ib (e.kids.map (Pg σ k))|none=>Hw)<=1+((i::(match σ.ij i with|some e=>e.kids.flatMap (DA σ k)|none=>[])).map (kl σ)).sum
  cases he:σ.ij i with
  |none=>simp[Hw,KF]
  |some e=>
   have h:=VO (Pg σ k) (DA σ k) (kl σ) e.kids (λx _=>aa5 σ k x);have m:kl σ i=e.kids.length:=by unfold kl;rw[he]
   grind[KF]
 |k+1,.tx i=>by
  show KF (match σ.nodes[i]? with|some (.tx s)=> .tx s|_=>Hw)<=_
  split<;>simp[Hw,KF]
 |k+1,.cm i=>by
  show KF (match σ.nodes[i]? with|some (.cm s)=> .cm s|_=>Hw)<=_
  split<;>simp[Hw,KF]
 |k+1,.dt i=>by
  show KF (match σ.nodes[i]? with|some (.dt s)=> .dt s|_=>Hw)<=_
  split<;>simp[Hw,KF]
def Cc (σ:Ab) (j:Nat):jk:=(σ.ij j).bind (·.jl)
def Pl (σ:Ab):Nat->Nat->jk
 |0,j=>some j
 |n+1,j=>(Pl σ n j).bind (Cc σ)
def VV (σ:Ab) (n j:Nat):∀d,Pl σ (n+d) j=(Pl σ n j).bind (Pl σ d)
 |0=>by simp[Pl]
 |d+1=>by
  show(Pl σ (n+d) j).bind (Cc σ)=_;rw[VV σ n j d];cases Pl σ n j<;>simp[Pl]
theorem J5 (a:jK r σ) (h:Cc σ j=some p):r p < r j:=by
 unfold Cc at h;cases he:σ.ij j with
 |none=>grind
 |some e=>rw[he]at h;exact a.ur.jl j e p he h
theorem KR (m:jK r σ):∀(n j i:Nat),Pl σ n j=some i->r i<=r j
 |0,j,i,h=>by cases h;simp
 |n+1,j,i,h=>by
  have a:(Pl σ n j).bind (Cc σ)=some i:=h;cases hq:Pl σ n j with
  |none=>grind
  |some q=>
   rw[hq]at a;have o:=KR m n j q hq;have t:=J5 m (show Cc σ q=some i from a);omega
theorem ID (m:jK r σ):∀(k:Nat) (i j:Nat),j∈DA σ k (.el i)->∃n,Pl σ n j=some i
 |0,i,j,h=>by cases h
 |k+1,i,j,h=>by
  have o:j∈i::(match σ.ij i with|some e=>e.kids.flatMap (DA σ k)|none=>[]):=h
  rcases List.mem_cons.1 o with rfl|a
  .exact⟨0,rfl⟩
  .cases he:σ.ij i with
   |none=>grind
   |some e=>
    rw[he]at a;have⟨x,hx,hj⟩:=List.mem_flatMap.1 a;cases x with
    |el c=>
     have⟨n,hn⟩:=ID m k c j hj;have⟨ej,g1,g2⟩:=m.oT.dn i e c he (yT.2 hx);refine⟨n+1,?_⟩;show(Pl σ n j).bind (Cc σ)=some i
     grind[Cc]
    |tx c=>cases k<;>cases hj
    |cm c=>cases k<;>cases hj
    |dt c=>cases k<;>cases hj
theorem adL (o:jK r σ) {m d : Nat} (h:Pl σ n j=some c) (a:Pl σ m j=some d) (t:Cc σ c=some i) (u:Cc σ d=some i):c=d:=by
 have y:∀{n m c d:Nat},n < m->Pl σ n j=some c->Pl σ m j=some d->Cc σ c=some i->Cc σ d=some i->False:=by
  intro n m c d x h a t u;obtain⟨q,rfl⟩:∃q,m=(n+1)+q:=⟨m - (n+1),by omega⟩;rw[VV]at a;have e:Pl σ (n+1) j=some i:=by
   show(Pl σ n j).bind (Cc σ)=some i;rw[h];exact t
  rw[e]at a;have z:=KR o q i d a;have A:=J5 o u;omega
 grind
def A4 (σ:Ab) (k:Nat):∀a:List Nd,a.flatMap (DA σ k)=(iM a).flatMap (λc=>DA σ k (.el c))
 |[]=>rfl
 | .el c::a=>by simp only[xG,iM];rw[A4 σ k a]
 | .tx c::a=>by
  have e:DA σ k (.tx c)=[]:=by cases k<;>rfl
  simp only[xG,iM,e,sg];exact A4 σ k a
 | .cm c::a=>by
  have e:DA σ k (.cm c)=[]:=by cases k<;>rfl
  simp only[xG,iM,e,sg];exact A4 σ k a
 | .dt c::a=>by
  have e:DA σ k (.dt c)=[]:=by cases k<;>rfl
  simp only[xG,iM,e,sg];exact A4 σ k a
theorem Jr (h:jK r σ) (k:Nat) (t:∀c,(DA σ k (.el c)).Nodup):∀a:List Nat,a.Nodup->(∀c∈a,Cc σ c=some i)->(a.flatMap (λc=>DA σ k (.el c))).Nodup
 |[],_,_=>List.nodup_nil
 |c::a,hn,hp=>by
  rw[xG];rw[Lb]at hn;refine List.nodup_append.2 ⟨t c,Jr h k t a hn.2 (λd o=>hp d (si _ o)),?_⟩;intro j u x q e;subst e;have⟨d,o,hjd⟩:=List.mem_flatMap.1 q;have⟨n,h1⟩:=ID h k c j u;have⟨m,h2⟩:=ID h k d j hjd;have e:=adL h h1 h2 (hp c (yk ..)) (hp d (si _ o))
  grind
def KM (a:jK r σ):∀(k i:Nat),(DA σ k (.el i)).Nodup
 |0,i=>List.nodup_nil
 |k+1,i=>by
  show(i::(match σ.ij i with|some e=>e.kids.flatMap (DA σ k)|none=>[])).Nodup
  cases he:σ.ij i with
  |none=>simp
  |some e=>
   have m:∀c∈iM e.kids,Cc σ c=some i:=by
    intro c h;have⟨ej,g1,g2⟩:=a.oT.dn i e c he h;unfold Cc;rw[g1];exact g2
   dsimp only;rw[A4];refine List.nodup_cons.2 ⟨?_,Jr a k (λc=>KM a k c) _ (a.oT.nd i e he) m⟩;intro o;have⟨c,h,hj⟩:=List.mem_flatMap.1 o;have⟨n,h1⟩:=ID a k c i hj;have q:=KR a n i c h1;have t:=J5 a (m c h);omega
theorem Nj:∀(l:List Nat) (L:List Nat),l.Nodup->(l.map (λi=>L.getD i 0)).sum<=L.sum
 |[],_,_=>by simp
 |i::l,L,hn=>by
  rw[Lb]at hn;have m:=Nj l (L.set i 0) hn.2;have e:l.map (λj=>(L.set i 0).getD j 0)=l.map (λj=>L.getD j 0):=by
   apply Wg;intro j o;have a:i≠j:=λe=>hn.1 (e▸o);simp[vK,List.getElem?_set,a]
  rw[e]at m;rw[Aj,List.sum_cons]
  by_cases h:i < L.length
  .have q:=Pc L i L[i] 0 (by simp)
   grind
  .have t:L.getD i 0=0:=by simp[vK,List.getElem?_eq_none (Nat.le_of_not_lt h)]
   have u:L.set i 0=L:=List.set_eq_of_length_le (Nat.le_of_not_lt h)
   grind
theorem Sg (f g:Nat->Nat) (h:∀i,f i<=g i):∀l:List Nat,(l.map f).sum<=(l.map g).sum
 |[]=>by simp
 |i::l=>by
  have:=h i;have:=Sg f g h l
  grind
theorem agm {l : List Nat} (h:l.Nodup):(l.map (kl σ)).sum<=wt σ:=by
 refine j7 (Sg (kl σ) (λi=>(σ.nodes.map Vu).getD i 0) (λi=>?_) l) (Nj l _ h);unfold kl;split
 .rename_i e a;have m:=Ab.jr a
  grind[Vu]
 simp
def afG (a:nr σ) (k i:Nat):KF (Pg σ k (.el i))<=1+wt σ:=by
 have⟨r,hr⟩:=a;have h:=aa5 σ k (.el i);have m:=agm (σ:=σ) (KM hr k i);omega
mutual
def TnG (B:Nat):Tn->Prop
 | .el name gM ks=>name.size<=5000/\gM.length<=16/\(∀p∈gM,p.1.size<=5000/\p.2.size<=66000)/\TsG B ks
 | .tx s=>s.size<=B
 | .cm s=>s.size<=5000
 | .dt s=>s.size<=5000
def TsG (B:Nat):List Tn->Prop
 |[]=>True
 |t::ts=>TnG B t/\TsG B ts
end
def VS (f:Nd->Tn):∀a:List Nd,(∀k∈a,TnG B (f k))->TsG B (a.map f)
 |[],_=>trivial
 |k::a,h=>⟨h k (yk ..),VS f a (λx m=>h x (si _ m))⟩
def aeu (h:NG σ):∀(k:Nat) (m:Nd),TnG (wt σ) (Pg σ k m)
 |0,m=>by
  have e:Pg σ 0 m=Hw:=by cases m<;>rfl
  rw[e];exact iN _
 |k+1,.el i=>by
  show TnG (wt σ) (match σ.ij i with|some e=> .el e.name e.ib (e.kids.map (Pg σ k))|none=>Hw)
  cases he:σ.ij i with
  |none=>exact iN _
  |some e=>
   have⟨a1,a2,a3⟩:=h.el he;exact⟨a1,a2,a3,VS _ _ (λx _=>aeu h k x)⟩
 |k+1,.tx i=>by
  show TnG (wt σ) (match σ.nodes[i]? with|some (.tx s)=> .tx s|_=>Hw)
  split
  .rename_i s a;exact abg a
  .exact iN _
 |k+1,.cm i=>by
  show TnG (wt σ) (match σ.nodes[i]? with|some (.cm s)=> .cm s|_=>Hw)
  split
  .rename_i s a;exact h.2 _ (uy a)
  .exact iN _
 |k+1,.dt i=>by
  show TnG (wt σ) (match σ.nodes[i]? with|some (.dt s)=> .dt s|_=>Hw)
  split
  .rename_i s a;exact h.2 _ (uy a)
  .exact iN _
mutual
theorem ae1 (q:B<=595500) (a:gz->Bool):∀t:Tn,TnG B t->(∀e∈Iq a t,zP e=true)/\wH (Iq a t)<=143000000*KF t/\(lE (Iq a t)).length<=18*KF t
 | .el name gM ks,h=>by
  have⟨h1,h2,h3,h4⟩:=h;have⟨g1,g2,g3⟩:=Ob q a ks h4;have u:zP (.enter name gM)=true:=by
   simp only[zP,sq,BG,Nu];exact⟨⟨h2,h3⟩,h1⟩
  have x:zP (.wh name)=true:=by simpa [zP]using h1
  unfold Iq KF;split
  .refine⟨λe m=>?_,?_,?_⟩
   .grind
   .simp[wH,Py];omega
   .simp[lE,vq];omega
  .refine⟨λe m=>?_,?_,?_⟩
   .grind
   .have e:wH (.enter name gM::(vj a ks++[.wh name]))=(6000+16*6000000)+(wH (vj a ks)+6000):=by simp[wH,Py]
    omega
   .have e:(lE (.enter name gM::(vj a ks++[.wh name]))).length=(1+gM.length)+((lE (vj a ks)).length+1):=by simp[lE,vq];omega
    omega
 | .tx s,h=>by
  have o:s.size<=B:=h;refine⟨λe m=>?_,?_,?_⟩
  .rw[List.mem_singleton.1 m];simp[zP];omega
  .simp[Iq,wH,Py,KF];omega
  .simp[Iq,lE,vq,KF]
 | .cm s,h=>by
  have o:s.size<=5000:=h;refine⟨λe m=>?_,?_,?_⟩
  .rw[List.mem_singleton.1 m];simp[zP];omega
  .simp[Iq,wH,Py,KF]
  .simp[Iq,lE,vq,KF]
 | .dt s,h=>by
  have o:s.size<=5000:=h;refine⟨λe m=>?_,?_,?_⟩
  .rw[List.mem_singleton.1 m];simp[zP];omega
  .simp[Iq,wH,Py,KF]
  .simp[Iq,lE,vq,KF]
theorem Ob (o:B<=595500) (m:gz->Bool):∀a:List Tn,TsG B a->(∀e∈vj m a,zP e=true)/\wH (vj m a)<=143000000*szS a/\(lE (vj m a)).length<=18*szS a
 |[],_=>⟨(λe q=>by cases q),(by simp[vj,wH]),(by simp[vj,lE])⟩
 |t::a,h=>by
  have⟨a1,a2,a3⟩:=ae1 o m t h.1;have⟨b1,b2,b3⟩:=Ob o m a h.2;unfold vj szS;refine⟨λe q=>?_,?_,?_⟩
  .grind
  .grind[wH]
  grind[lE]
end
structure Trail (s:gz) (n:Nat) (A:Nat->Sp) (cut:Nat->Nat):Prop where
 a:∀i,i < n->(A i).a=(cut i:Int)
 b:∀i,i < n->(A i).b=(cut (i+1):Int)
 lt:∀i,i < n->cut i < cut (i+1)
 le:∀i,i<=n->cut i<=s.size
 zero:cut 0=0
 last:cut n=s.size
 kd:∀i,i < n->1<=(A i).k/\(A i).k<=6
 ch:∀i,0 < i->i < n->(A i).k=1->(A (i - 1)).k≠1
 open_:∀i,i < n->(A i).k≠1->bt s (cut i)=60
 shut:∀i,i < n->(A i).k≠1->bt s (cut (i+1) - 1)=62\/cut (i+1)=s.size
theorem YS {a : Nat} (h:a<=b):(gM s a).length<=(gM s b).length:=by
 induction b with
 |zero=>grind
 |succ b ih=>
  rcases mO b a with m|m
  .grind
  .have:=ih m;cases hk:qZ s b
   .rw[IW hk];omega
   .rw[ww hk];grind
theorem abQ:j < (gM s n).length->∃c,c < n/\qZ s c=true/\(gM s c).length=j/\(gM s n)[j]?=some c:=by
 induction n with
 |zero=>simp[gM]
 |succ n ih=>
  intro h;cases hk:qZ s n
  .rw[IW hk]at h|-
   grind
  .rw[ww hk]at h|-
   grind
theorem UZ (q:qZ s c=true):c < n->(gM s n)[(gM s c).length]?=some c:=by
 induction n with
 |zero=>simp
 |succ n ih=>
  intro h;rcases mO c n with a|a
  .have m:=ih a;have o:(gM s c).length < (gM s n).length:=by
    rcases mO (gM s c).length (gM s n).length with h|h
    .exact h
    .grind
   cases hn:qZ s n
   .rw[IW hn];exact m
   .rw[ww hn,Nt o];exact m
  .have:c=n:=by omega
   subst this;rw[ww q];simp
theorem N2 (h:j < (pd s).size):∃c,c < s.size/\qZ s c=true/\(gM s c).length=j/\jq s j=c/\bt (pd s) j=PY s c:=by
 rw[uF]at h;have⟨c,h1,h2,h3,h4⟩:=abQ h;refine⟨c,h1,h2,h3,?_,?_⟩
 .grind[jq]
 .have a:j < (pd s).size:=by rw[uF];exact h
  unfold bt;rw[xF a];show(((((gM s s.size).map (chB s)).toArray)[j]'(by grind)).toNat:Int)=_;have e:(gM s s.size)[j]=c:=by rw[qB h]at h4;exact jy h4
  simp only[List.getElem_toArray,List.getElem_map,e];exact Ms s c
def AY (s:gz):jq s (pd s).size=s.size:=by
 unfold jq;rw[uF,vK,Pq (gW _)];simp
def Zd (m:i < j) (o:j<=(pd s).size):jq s i < jq s j:=by
 have⟨c,h1,_,h3,h4,_⟩:=N2 (s:=s) (j:=i) (by omega);rw[h4];rcases mO j (pd s).size with a|a
 .have⟨d,_,_,g3,g4,_⟩:=N2 a;rw[g4];rcases mO c d with h|h
  .exact h
  .have:=YS (s:=s) h;omega
 .have:j=(pd s).size:=by omega
  rw[this,AY];exact h1
def Zc (h:i<=(pd s).size):jq s i<=s.size:=by
 rcases mO i (pd s).size with a|a
 .have:=Zd a (gW _);rw[AY]at this;omega
 .have:i=(pd s).size:=by omega
  rw[this,AY];simp
theorem Zg (s:gz):jq s 0=0:=by
 rcases xE s.size with h|h
 .have:=Zc (s:=s) (i:=0) (iN _);omega
 .have a:qZ s 0=true:=by unfold qZ;simp
  have m:=UZ (s:=s) (n:=s.size) a h;have o:(gM s 0).length=0:=rfl
  grind[jq]
def Ze (h:i < (pd s).size) (a:bt (pd s) i=60):bt s (jq s i)=60:=by
 have⟨c,_,_,_,h4,h5⟩:=N2 h;rw[h4];rw[h5]at a;unfold PY at a;omega
theorem Zf {m : Nat} (u:0 < m) (h:m<=(pd s).size) (a:bt (pd s) (m - 1)=62):bt s (jq s m - 1)=62:=by
 have⟨c,h1,h2,h3,h4,h5⟩:=N2 (s:=s) (j:=m - 1) (by omega);rw[h5]at a;have q:bt s c=62:=by
  unfold PY at a;split at a
  .omega
  .exact a
 have y:(gM s (c+1)).length=m:=by rw[ww h2];simp;omega
 have e:jq s m=c+1:=by
  rcases mO (c+1) s.size with o|o
  .have t:qZ s (c+1)=true:=by unfold qZ;simp[q]
   have x:=UZ (s:=s) t o
   grind[jq]
  .grind[jq]
 grind
def RCh (s:gz):List Sp->Nat->Prop
 |[],p=>p=0
 |x::xs,p=>x.b=(p:Int)/\∃q:Nat,x.a=(q:Int)/\q < p/\1<=x.k/\x.k<=6/\(x.k≠1->bt s q=60/\(bt s (p - 1)=62\/p=s.size))/\(x.k=1->∀y a,xs=y::a->y.k≠1)/\RCh s xs q
theorem abC {m : Nat} {a : Nat} (h:RCh s L.reverse p) (x:p < m) (t:1<=a) (q:a<=6) (u:a≠1->bt s p=60/\(bt s (m - 1)=62\/m=s.size)):RCh s (qM L ⟨a,p,m⟩).reverse m:=by
 rcases V5 L with rfl|⟨M,l,rfl⟩
 .grind[RCh,qM]
 .rw[List.concat_eq_append]at h|-;rw[Ns]at h;simp only[List.reverse_cons,List.reverse_nil,sg,List.singleton_append]at h
  by_cases o:((a:Nat):Int)=1/\l.k=1
  .rw[Mm M l _ o,Ns]
   grind[RCh]
  grind[RCh,qM]
def acw (k:UR):vF k<=6:=by cases k<;>simp[vF]
def OU {vM : Int} {av : gQ} (H:∀x t,look x=some t->t.size<=16) (I:(pd s).size<=1024):∀(n ps:Nat) (σ:Ab) (L:List Sp),ps<=(pd s).size->RCh s L.reverse (jq s ps)->∀y M,nP (sG s vM av b) look lg (jq s) n ps σ L= .done y M->RCh s M.reverse s.size:=by
 intro n
 induction n with
 |zero=>intro ps σ L _ _ y M h;cases h
 |succ n ih=>
  intro ps σ L J G y M h;rw[nP]at h;have a:=λ(o:ps < (pd s).size)=>Dg (R:=QR (sG s vM av b) σ.nJ σ.iY) (look:=look) (lg:=lg) (ps:=ps) H I o;have q:ps=(pd s).size->kR (QR (sG s vM av b) σ.nJ σ.iY) look lg ps= .tok .Xe (pd s).size:=λe=>by rw[e];exact JV (R:=QR (sG s vM av b) σ.nJ σ.iY)
  revert h a q;cases kR (QR (sG s vM av b) σ.nJ σ.iY) look lg ps with
  |stop=>simp
  |tok k m=>
   intro h a q;dsimp only at h;revert h;cases qJ (ie false xf) (qd (jq s ps) (jq s m) k) (xu (sG s vM av b) σ ps (qd (jq s ps) (jq s m) k))with
   |stuck=>simp
   |stop c p=>simp
   |ok u σ2=>
    intro h;dsimp only at h;split at h
    .rename_i F;cases h;rcases mO ps (pd s).size with o|E
     .have:=(a o).1.2.2.1;omega
     .have e:ps=(pd s).size:=by omega
      rwa [e,AY]at G
    .rename_i F;rcases mO ps (pd s).size with o|E
     .have⟨⟨g1,g2,g3,g4,_⟩,g6⟩:=a o;have z:m<=(pd s).size:=g2;refine ih m σ2 _ z (abC G (Zd g1 z) g3 (acw k) λA=>⟨?_,?_⟩) y M h
      .exact Ze o (g6 k m rfl A)
      .rcases g4 A with C|C
       .right;have D:m=(pd s).size:=C;rw[D,AY]
       .left;exact Zf (by omega) z C
     .have:=q (by omega);obtain⟨rfl,_⟩:=AP.tok.inj this;exact absurd rfl F
structure aeD (s:gz) (n:Nat) (A:Nat->Sp) (cut:Nat->Nat) (p:Nat):Prop where
 a:∀i,i < n->(A i).a=(cut i:Int)
 b:∀i,i < n->(A i).b=(cut (i+1):Int)
 lt:∀i,i < n->cut i < cut (i+1)
 le:∀i,i<=n->cut i<=p
 zero:cut 0=0
 last:cut n=p
 kd:∀i,i < n->1<=(A i).k/\(A i).k<=6
 ch:∀i,0 < i->i < n->(A i).k=1->(A (i - 1)).k≠1
 open_:∀i,i < n->(A i).k≠1->bt s (cut i)=60
 shut:∀i,i < n->(A i).k≠1->bt s (cut (i+1) - 1)=62\/cut (i+1)=s.size
def xO (L:List Sp) (i:Nat):Sp:=L.getD i ⟨0,0,0⟩
theorem PZ {xs : List Sp}:∀{p:Nat},RCh s xs p->∃cut,aeD s xs.length (xO xs.reverse) cut p:=by
 induction xs with
 |nil=>
  intro p h;have C:p=0:=h;subst C;exact⟨λ_=>0,by simp,by simp,by simp,λ_ _=>gW _,rfl,rfl,by simp,by simp,by simp,by simp⟩
 |cons x xs ih=>
  intro p h;have⟨h1,q,h2,h3,h4,h5,h6,h7,h8⟩:=h;have⟨cut,T⟩:=ih h8;have u:∀i,i < xs.length->xO (x::xs).reverse i=xO xs.reverse i:=by
   intro i o;unfold xO;rw[List.reverse_cons,vK,vK,Nt (by grind)]
  have z:xO (x::xs).reverse xs.length=x:=by
   unfold xO;rw[List.reverse_cons,vK,Pq (by simp)];simp
  have t:∀i,i<=xs.length->(if i<=xs.length then cut i else p)=cut i:=λi o=>gJ o;have c2:(if xs.length+1<=xs.length then cut (xs.length+1)else p)=p:=gV (by omega);refine⟨λi=>if i<=xs.length then cut i else p,?_,?_,?_,?_,?_,?_,?_,?_,?_,?_⟩
  .intro i o;rw[t i (by grind)];rcases mO i xs.length with a|a
   .rw[u i a];exact T.a i a
   .have:i=xs.length:=by simp at o;omega
    subst this;rw[z,h2,T.last]
  .intro i o;rcases mO i xs.length with a|a
   .rw[t (i+1) a,u i a];exact T.b i a
   grind
  .intro i o;rcases mO i xs.length with a|a
   .show(if i<=xs.length then cut i else p) < (if i+1<=xs.length then cut (i+1)else p);rw[t (i+1) a,t i (by omega)];exact T.lt i a
   .have:i=xs.length:=by simp at o;omega
    subst this;show(if xs.length<=xs.length then cut xs.length else p) < (if xs.length+1<=xs.length then cut (xs.length+1)else p);rw[c2,t _ (gW _),T.last];exact h3
  .intro i o;show(if i<=xs.length then cut i else p)<=p;rcases mO xs.length i with a|a
   .grind
   .rw[t i a];have:=T.le i a;omega
  .show(if 0<=xs.length then cut 0 else p)=0;rw[t 0 (iN _)];exact T.zero
  .omega
  .intro i o;rcases mO i xs.length with a|a
   .rw[u i a];exact T.kd i a
   grind
  .intro i A o m;rcases mO i xs.length with a|a
   .rw[u i a]at m;rw[u (i - 1) (by omega)];exact T.ch i A a m
   .have:i=xs.length:=by simp at o;omega
    subst this;rw[z]at m;rw[u _ (by omega)];cases xs with
    |nil=>grind
    |cons y ys=>
     grind[xO]
  .intro i o m;show bt s (if i<=xs.length then cut i else p)=60;rw[t i (by grind)];rcases mO i xs.length with a|a
   .rw[u i a]at m;exact T.open_ i a m
   .have:i=xs.length:=by simp at o;omega
    subst this;rw[z]at m;rw[T.last];omega
  .intro i o m;show bt s ((if i+1<=xs.length then cut (i+1)else p) - 1)=62\/(if i+1<=xs.length then cut (i+1)else p)=s.size;rcases mO i xs.length with a|a
   .rw[t (i+1) a];rw[u i a]at m;exact T.shut i a m
   grind
def OW {d f l : Nat} (o:s.size<=1024) {a : Ab} {M : List Sp} (h:Bk d f l s= .done a M):∃cut,Trail s M.length (xO M) cut:=by
 have m:RCh s M.reverse s.size:=OU (vM:=(l:Int)) (av:= .nilFunc) (b:=0) x7 (by have:=DS s;omega) _ 0 _ [] (iN _) (by show jq s 0=0;exact Zg s) a M h;have⟨cut,T⟩:=PZ m;rw[List.length_reverse,List.reverse_reverse]at T;exact⟨cut,T.a,T.b,T.lt,T.le,T.zero,T.last,T.kd,T.ch,T.open_,T.shut⟩
def OV {d f l : Nat} (t:s.size<=1024) (m:d<=64) (o:f<=32) (h:Bk d f l s= .stop c p):p<=s.size:=by
 have a:=FU d f l s t m o;rw[h]at a;obtain⟨q,_,u,rfl⟩:=a;exact Zc u
def Yh (a:nr σ):∃K,∀(E:Env) (f:Nat->Nat) (w:gx),RF E f σ w->jL w (Pg σ (K+1) (.el 0)) (.el (f 0)):=by
 have⟨r,hv⟩:=a;have⟨B,hB⟩:=AV r σ.nodes.length;refine⟨B+1,λE f w h=>?_⟩;obtain⟨L,rfl,m⟩:=h;refine Vm m hv hB (B+2) (.el 0) hv.xX ?_ (by omega);omega
theorem Zj (t:nr σ) (u:NG σ) (q:wt σ<=595500) (K:Nat):∃nm gM T,Pg σ (K+1) (.el 0)= .el nm gM T/\UN T:=by
 have⟨r,hv⟩:=t;have⟨e,he⟩:=Option.isSome_iff_exists.1 hv.xX;have a:Pg σ (K+1) (.el 0)= .el e.name e.ib (e.kids.map (Pg σ K)):=by
  show(match σ.ij 0 with|some e=>Tn.el e.name e.ib (e.kids.map (Pg σ K))|none=>Hw)=_
  rw[he]
 have h:=afG ⟨r,hv⟩ (K+1) 0;have m:=aeu u (K+1) (.el 0);rw[a]at h m;have o:TsG (wt σ) (e.kids.map (Pg σ K)):=m.2.2.2;have y:1+szS (e.kids.map (Pg σ K))<=1+wt σ:=h;refine⟨_,_,_,a,λx=>?_,?_⟩
 .have⟨g1,g2,_⟩:=Ob q x _ o
  grind
 .have⟨_,_,g3⟩:=Ob q (λ_=>false) _ o
  grind[ou]
structure W4 (w:gx):Prop where
 tab:xL w
 gl:Ij w
 er:errorType w
 el:0 < w.heap.size
def W4.kept {w' : gx} (h:W4 w) (a:Kept [] w w'):W4 w':=⟨h.tab.fr (bm:=0) (.gU a),h.gl.kept a,h.er.kept a (by simp),mi h.el a.size⟩
structure aeC (s:gz) (X:Told):Prop where
 SS:X.its.length<=1000000000
 spl:X.sps.length<=1024
 or:(X.c≠0/\X.p<=s.size/\X.its=[]/\X.txt=⟨#[]⟩/\X.sps=[])\/(X.c=0/\X.p=s.size/\∃cut,Trail s X.sps.length (xO X.sps) cut)
def Yg {A : Nat->Sp} (h:Trail s n A cut):n<=s.size:=by
 have:∀i,i<=n->i<=cut i:=by
  intro i
  induction i with
  |zero=>simp
  |succ i ih=>
   intro o;have a:=ih (by omega);have m:=h.lt i (by omega);omega
 have a:=this n (gW _)
 rwa [h.last]at a
def TX (s:gz) (X:Told):Prop:=(∃c p,IL s 64 32 16 c p/\X=⟨c,p,[],⟨#[]⟩,[]⟩)\/∃nm gM T L,IJ s 64 32 16 (.el nm gM T) L/\UN T/\X=⟨0,s.size,ou T,VU T,L⟩
theorem adF (s:gz) (o:s.size<=1024):∃X,aeC s X/\TX s X:=by
 have m:=FU 64 32 16 s o (by omega) (by omega);cases h:Bk 64 32 16 s with
 |stuck=>rw[h]at m;exact m.elim
 |stop c p=>
  refine⟨⟨c,p,[],⟨#[]⟩,[]⟩,⟨iN _,iN _,.inl ⟨RL 64 32 16 s o (by omega) h,OV o (by omega) (by omega) h,rfl,rfl,rfl⟩⟩,.inl ⟨c,p,λz base w x q t=>?_,rfl⟩⟩;exact(M7 s z base 64 32 16 w x o (by omega) (by omega) (by omega) q t).mono (λe H y=>by grind)
 |done fin L=>
  rw[h]at m;have⟨g1,g2,_⟩:=m;have u:=XS 64 32 16 s o (by omega) h;have G:wt fin<=595500:=by
   have A:wt fin<=Lc fin:=Ai _ _;have C:=YE (d:=64) (f:=32) (l:=16) (a:=0);have D:=DS s;have F:(sG s ((16:Nat):Int) .nilFunc 0).cs.size=(pd s).size:=rfl;omega
  have⟨K,hK⟩:=Yh g1.iv;have⟨nm,gM,T,q,hD⟩:=Zj g1.iv u G K;rw[q]at hK;have⟨cut,hTr⟩:=OW o h;refine⟨⟨0,s.size,ou T,VU T,L⟩,⟨hD.2,by have:=Yg hTr;grind,.inr ⟨rfl,rfl,cut,hTr⟩⟩,.inr ⟨nm,gM,T,L,λz base w x q t=>?_,hD,rfl⟩⟩;refine(M7 s z base 64 32 16 w x o (by omega) (by omega) (by omega) q t).mono λe H y=>?_;rw[h]at y;have⟨v,k,E,fl,A,C,D,F,h5,h6⟩:=y
  grind[YH]
def TX.one (o:s.size<=1024) {X : Told} (h:TX s X):∀w,W4 w->Calls prog 8 #[gH s,gh 64,gh 32,gh 16,jc] w (Fi w X):=by
 intro w a;rcases h with⟨c,p,m,rfl⟩|⟨nm,gM,T,L,m,q,rfl⟩
 .exact T0 s 64 32 16 w o (by omega) (by omega) (by omega) a.tab a.gl m a.er a.el
 .exact TZ s 64 32 16 w o (by omega) (by omega) (by omega) a.tab a.gl m q
theorem R3 {o : Nat} (q:w.ownsRow base 53 3 (oe g L.length o) L.length (kD L)):ND w g 0 L.length (xO L):=by
 have m:∀(L:List Sp) (i k:Nat),i < L.length->k < 3->(kD L)[i*3+k]?=[Value.int .i64 (xO L i).k,gh (xO L i).a,gh (xO L i).b][k]?:=by
  intro L
  induction L with
  |nil=>simp
  |cons p L ih=>
   intro i k a h;show(Value.int .i64 p.k:: gh p.a:: gh p.b::kD L)[i*3+k]?=_;cases i with
   |zero=>
    have e:xO (p::L) 0=p:=rfl
    grind
   |succ i=>
    have e:xO (p::L) (i+1)=xO L i:=by unfold xO;simp
    grind
 have c:∀i k,i < L.length->k < 3->w.cell? ⟨g,i*3+k,none⟩=[Value.int .i64 (xO L i).k,gh (xO L i).a,gh (xO L i).b][k]?:=by
  intro i k a h
  match k,h with
  |0,h=>have:=q.cells (g:=g) rfl (i*3+0) _ (m L i 0 a h);rw[jg]at this;grind
  |1,h=>have:=q.cells (g:=g) rfl (i*3+1) _ (m L i 1 a h);rw[jg]at this;grind
  |2,h=>have:=q.cells (g:=g) rfl (i*3+2) _ (m L i 2 a h);rw[jg]at this;grind
 refine⟨λi a=>?_,λi a=>?_,λi a=>?_⟩
 .rw[BA];exact c i 0 a (by omega)
 all_goals grind
structure Ny (w:gx) (g off n:Nat) (A:Nat->It):Prop where
 c0:∀i,i < n->w.cell? ⟨g,off+i*3,none⟩=some (gh (A i).k)
 c1:∀i,i < n->w.cell? ⟨g,off+i*3+1,none⟩=some (gH (A i).s)
 c2:∀i,i < n->w.cell? ⟨g,off+i*3+2,none⟩=some (gH (A i).t)
def Ko (m u S o C T n:Nat) (A B:Nat->It) (w:gx) (J:Ny w m u n A) (K:Ny w o C n B) (X:n<=140737488351232) (t:∀i,i < n->A i=B i):
  Calls prog 21 #[.slice (some ⟨m,u,none⟩) n S,.slice (some ⟨o,C,none⟩) n T] w λe U=>e=iw (.bool true)/\∃q,U=w.drewN q:=by
 have D:=fV J;have F:=fV K;have E:=fV t;clear J K t;go_enter func21,ntmps21;go_wp2
 go_loopw [5] (λi wr=>∃k:Nat,k<=n/\i=gh k/\∃q,wr=w.drewN q) (λi _=>n - (intOf i).toNat)
 case atStart=>exact⟨0,iN _,rfl,0,rfl⟩
 case round=>
  obtain⟨k,V,rfl,N⟩:=hrel;have h:=fV N;clear N
  by_cases a:k < n
  .have O:wr.cell? ⟨m,u+k*3,none⟩=some (gh (A k).k):=by obtain⟨q,rfl⟩:=h.out;rw[sT];exact D.out.c0 k a
   have P:wr.cell? ⟨m,u+k*3+1,none⟩=some (gH (A k).s):=by obtain⟨q,rfl⟩:=h.out;rw[sT];exact D.out.c1 k a
   have Q:wr.cell? ⟨m,u+k*3+2,none⟩=some (gH (A k).t):=by obtain⟨q,rfl⟩:=h.out;rw[sT];exact D.out.c2 k a
   have G:wr.cell? ⟨o,C+k*3,none⟩=some (gh (B k).k):=by obtain⟨q,rfl⟩:=h.out;rw[sT];exact F.out.c0 k a
   have H:wr.cell? ⟨o,C+k*3+1,none⟩=some (gH (B k).s):=by obtain⟨q,rfl⟩:=h.out;rw[sT];exact F.out.c1 k a
   have I:wr.cell? ⟨o,C+k*3+2,none⟩=some (gH (B k).t):=by obtain⟨q,rfl⟩:=h.out;rw[sT];exact F.out.c2 k a
   rw[<-E.out k a]at G H I;generalize (A k).k=x at O G;generalize (A k).s=y at P H;generalize (A k).t=z at Q I;go_wp2_with fail
   go_quiet (fail)
   go_wp2;go_roundw
   case rel=>exact⟨k+1,by omega,by go_num,by obtain⟨q,rfl⟩:=h.out;exact⟨_,World.drewN_drewN _ _ _⟩⟩
   case measure=>simp[intOf];omega
  .go_wp2;go_ret;exact⟨rfl,h.out⟩
def FF (L:List It) (i:Nat):It:=L.getD i ⟨0,⟨#[]⟩,⟨#[]⟩⟩
def QS {q : Nat} {L : List It} (t:w.ownsRow base 57 3 (oe g L.length q) L.length (pR L)):Ny w g 0 L.length (FF L):=by
 have o:∀(L:List It) (i k:Nat),i < L.length->k < 3->(pR L)[i*3+k]?=[Value.int .i64 (FF L i).k,gH (FF L i).s,gH (FF L i).t][k]?:=by
  intro L
  induction L with
  |nil=>intro i k h;simp at h
  |cons p L ih=>
   intro i k a m;show(Value.int .i64 p.k:: .string p.s:: .string p.t::pR L)[i*3+k]?=_;cases i with
   |zero=>
    have e:FF (p::L) 0=p:=rfl;rw[e,Nat.zero_mul,BA]
    match k,m with
    |0,_=>rfl
    |1,_=>rfl
    |2,_=>rfl
   |succ i=>
    have e:FF (p::L) (i+1)=FF L i:=by unfold FF;simp
    rw[e,show(i+1)*3+k=(i*3+k)+1+1+1 by omega];simp only[List.getElem?_cons_succ];exact ih i k (by simpa using a) m
 have c:∀i k,i < L.length->k < 3->w.cell? ⟨g,i*3+k,none⟩=[Value.int .i64 (FF L i).k,gH (FF L i).s,gH (FF L i).t][k]?:=by
  intro i k a m
  match k,m with
  |0,m=>have:=t.cells (g:=g) rfl (i*3+0) _ (o L i 0 a m);rw[jg]at this;exact this
  |1,m=>have:=t.cells (g:=g) rfl (i*3+1) _ (o L i 1 a m);rw[jg]at this;exact this
  |2,m=>have:=t.cells (g:=g) rfl (i*3+2) _ (o L i 2 a m);rw[jg]at this;exact this
 refine⟨λi a=>?_,λi a=>?_,λi a=>?_⟩
 .rw[BA];exact c i 0 a (by omega)
 .rw[BA];exact c i 1 a (by omega)
 .rw[BA];exact c i 2 a (by omega)
def FH (a h:Option Addr) (c1 c2:Nat) (w:gx):Calls prog 21 #[.slice a 0 c1,.slice h 0 c2] w λe m=>e=iw (.bool true)/\Kept [] w m:=by
 go_enter func21,ntmps21;go_wp2;refine uj 1 ?_;rw[nU];go_wp2;go_ret;exact⟨rfl,Kept.refl _ _⟩
def QV (z A:Nat) (v1 v2:gQ) (L:List It) (w:gx) (o:w.ownsRow z 57 3 v1 L.length (pR L)) (t:w.ownsRow A 57 3 v2 L.length (pR L)) (G:L.length<=1000000000):
  Calls prog 21 #[v1,v2] w λe u=>e=iw (.bool true)/\Kept [] w u:=by
 by_cases m:L.length=0
 .obtain⟨x,a,rfl⟩:=gF o;obtain⟨y,c2,rfl⟩:=gF t;rw[m];exact FH x y a c2 w
 .rcases o.2 with⟨_,h⟩|⟨C,a,H,rfl,_,E,_⟩
  .exact absurd h m
  rcases t.2 with⟨_,h⟩|⟨D,c2,I,rfl,_,F,_⟩
  .exact absurd h m
  refine(Ko C 0 a D 0 c2 L.length (FF L) (FF L) w (QS o) (QS t) (by omega) (λ_ _=>rfl)).mono ?_;rintro e u ⟨h,q,rfl⟩;exact⟨h,(Kept.refl [] w).drewN q⟩
def TT (s:gz) (d f l:Nat) (g:Nat) (w:gx) (hs:s.size<=1024) (hd:4<=d/\d<=64) (hf:1<=f/\f<=32) (hl:1<=l/\l<=16) (hT:xL w) (hg:Ij w) (P:SX w g) {gM : lZ} {T : List Tn} (hn:IJ s d f l (.el nm gM T) L) (hE:UN T):
  Calls prog 8 #[gH s,gh d,gh f,gh l,oe g 3 3] w (Fi w ⟨0,s.size,ou T,VU T,L⟩):=by
 obtain⟨o,Z⟩:∃o,o=w.alloc (.cells uB 28):=⟨_,rfl⟩;have k0:Kept [] w o:=by rw[Z];exact(Kept.refl _ _).alloc _
 have z0:o.heap.size=w.heap.size+1:=by rw[Z];simp
 have r0:o.heap[w.heap.size]?=some (gL uB 28):=by rw[Z];exact fX w _
 have CN:=fV (Iw (d:Int) (f:Int) (l:Int) o ⟨by omega,by omega,by omega,by omega,by omega,by omega⟩);have HW:=fV (show w.alloc (.cells uB 28)=o from Z.symm);unfold uB at HW;have HE:=fV hE;have HT:=fV hT;have HG:=fV hg;have aV:=fV hn;have aR:=fV (P.kept k0 (by simp));have bd:=P.lt;have aS:=fV k0;have HZ:=fV z0;have HR:=fV r0;clear Z k0 z0 r0 hT hg hn hE P;go_enter func8,ntmps8;go_wp2_with fail;rw[HW.out];refine CN.out.mono ?_;rintro e w1 ⟨rfl,aL,ae⟩;have an:=fV (aR.out.kept ae (by simp));have ac:Hid (Mj ((d:Int),(f:Int),(l:Int)) w1 o.heap.size s 0 (jc) w1):=⟨aL,by
  have e:s.extract 0 0=⟨#[]⟩:=by apply ve;simp
  rw[e];exact od _ _ _ _,Kept.refl _ _⟩
 have aT:=fV ae;clear aL ae CN
 by_cases h0:s.size=0
 have e1:ByteArray.empty=s:=by apply ve;exact(Ga h0).symm
 have CW:=wP o.heap.size ((d:Int),(f:Int),(l:Int)) (jc) ⟨#[]⟩ ByteArray.empty w1.heap.size w1 ac.out.iC (od _ _ _ _) (by decide) (gW _);rw[vi]at CW;have E:=fV CW;have hz:((ByteArray.empty).size:Int)=0:=rfl;have E1:=fV e1;obtain⟨cc,az,hc⟩:=an.out.at_ 0 (by omega);clear e1 CW;go_wp2_with fail;refine uj 2 ?_;rw[nU];rcases xE cc with O|O
 iterate 2
  try subst O
  go_wp2_with fail;refine E.out.mono ?_;rintro e a ⟨rfl,G⟩;rw[E1.out]at G;have au:=fV G;clear G E;go_wp2_with fail;have G:=au.out;clear au h0 hz hc
  rotate_left
 focus
  have ba:=ac;go_wp2_with fail
  go_loopw [14,15] (λb9 ak wr=>∃(k i:Nat) (tv:gQ),b9=gh k/\ak=gh i/\k<=i/\i<=s.size/\Mj ((d:Int),(f:Int),(l:Int)) w1 o.heap.size s i tv wr) (λ_ ak _=>s.size - (intOf ak).toNat)
  case atStart=>exact⟨0,0,_,rfl,rfl,gW _,iN _,ac.out⟩
  obtain⟨k,i,tv,rfl,rfl,be,hi,hP⟩:=hrel;have HP:=fV hP;clear hP
  by_cases bf:i < s.size
  .have b5:k%3 < 3:=Nat.mod_lt _ (by omega);obtain⟨cc,az,hc⟩:=(an.out.kept HP.out.kept (by simp;have:=HZ.out;omega)).at_ (k%3) b5;have bc:(k:Int).tmod 3=((k%3:Nat):Int):=by
    rw[Int.tmod_eq_emod_of_nonneg (by omega)];omega
   have CW:∀n,1<=n->i+n<=s.size->Calls prog 15 #[gN o.heap.size,gH (s.extract i (i+n))] wr λe w'=>e=iw (.tuple #[gh n,gh 0,.bool true])/\∃aj,Mj ((d:Int),(f:Int),(l:Int)) w1 o.heap.size s (i+n) aj w':=by
    intro n bg U;have b3:(s.extract i (i+n)).size=n:=by simp;omega
    have bh:(s.extract 0 i).size=i:=by simp;omega
    refine(wP o.heap.size ((d:Int),(f:Int),(l:Int)) tv (s.extract 0 i) (s.extract i (i+n)) w1.heap.size wr HP.out.iC HP.out.own (by omega) HP.out.kept.size).mono ?_;rintro e w' ⟨rfl,aj,h1,h2,h3,h4⟩;rw[D8 s i n U]at h2;refine⟨by rw[b3],aj,h1,h2,HP.out.kept.next h3 (λx hx=>?_)⟩;rcases List.mem_cons.1 hx with rfl|hx
    .exact .inl (by simp)
    .exact .inr (HP.out.own.lt x (by simpa using hx)).1
   have E:=fV CW;clear CW;generalize hm:k%3=m at *;have Hm:=fV hm;clear hm;rcases xE cc with O|O
   .subst O;have J:=fV (E.out 1 (by omega) (by omega));have aE:i+1<=s.size:=by omega
    go_wp2_with fail;refine J.out.mono ?_;rintro e w5 ⟨rfl,a1,z⟩;have I:=fV z;clear z;go_wp2;go_roundw
    case rel=>exact⟨k+1,i+1,a1,by go_num,by go_num,by omega,by omega,I.out⟩
    case measure=>simp[intOf];omega
   .by_cases bb:s.size - i < cc
    .have e9:i+(s.size - i)=s.size:=by omega
     have h9:=E.out (s.size - i) (by omega) (by omega);rw[e9]at h9;have J:=fV h9;have E9:=fV e9;clear h9 e9;go_wp2_with fail;refine J.out.mono ?_;rintro e w5 ⟨rfl,a1,z⟩;have I:=fV z;clear z;go_wp2;go_roundw
     case rel=>exact⟨k+1,s.size,a1,by go_num,by first|go_num|(congr 1;omega),by omega,gW _,I.out⟩
     case measure=>simp[intOf];omega
    .skip
     have J:=fV (E.out cc (by omega) (by omega));have aE:i+cc<=s.size:=by omega
     go_wp2_with fail;refine J.out.mono ?_;rintro e w5 ⟨rfl,a1,z⟩;have I:=fV z;clear z;go_wp2;go_roundw
     case rel=>exact⟨k+1,i+cc,a1,by go_num,by go_num,by omega,by omega,I.out⟩
     case measure=>simp[intOf];omega
  have e:i=s.size:=by omega
  subst e;go_wp2_with fail;obtain⟨a,b7⟩:∃a,a=wr:=⟨_,rfl⟩;subst b7;have G:∃tv,a.heap[o.heap.size]?=some (gL (ry ((d:Int),(f:Int),(l:Int)) tv) 76)/\a.ownsRow w1.heap.size 5 1 tv s.size (kH s)/\Kept (o.heap.size::(jc).ownBlock.toList) w1 a/\True:=by
   have h1:=HP.out.own;rw[Gy]at h1;exact⟨tv,HP.out.iC,h1,HP.out.kept,trivial⟩
 all_goals
  obtain⟨tv,ai,aP,aA,_⟩:=G;have U:Kept [] o a:=aT.out.next (S':=o.heap.size::(jc).ownBlock.toList) aA (by simp[Value.ownBlock]);have k3:Kept [] a (a.alloc (.cells #[gh 0,gh 0,jc,gH jz,jc] 28)):=(Kept.refl _ _).alloc _;have a4:=(aS.out.trans U).trans k3;have aQ:=fV (fX a (.cells #[gh 0,gh 0,jc,gH jz,jc] 28));have CC:=fV (Vy o.heap.size d f l tv s w1.heap.size _ (k3.at ai (by simp)) (k3.ownsRow aP (λ_ _=>by simp)) (HT.out.fr (bm:=0) (.gU a4)) (HG.out.kept a4) aV.out);have ao:=fV a4;have aW:=fV (k3.at (U.at HR.out (by simp)) (by simp));have ab:o.heap.size < a.heap.size:=iX ai;have ad:=fV ab;clear ai aP aA U k3 a4 ab;go_wp2_with fail;refine CC.out.mono ?_;rintro e w4 ⟨rfl,v4,k4,aM,aI,aH,aD,a2⟩;have aF:a.heap.size∉[o.heap.size]:=by have:=ad.out;simp;omega
  have aG:w.heap.size∉[o.heap.size]:=by have:=HZ.out;simp;omega
  have V4:Kvx w o.heap.size w.heap.size a.heap.size k4 d f l s.size v4 L (.el nm gM T) #[gh 0,gh 0,jc,gH jz,jc] w4:=
   ⟨aM,aI,jR aH (iN _),a2.at aW.out aG,a2.at aQ.out aF,by have:=HZ.out;have:=ad.out;omega,by have:=HZ.out;have:=ad.out;omega,ao.out.next a2 (by have:=HZ.out;simp;omega)⟩
  have d0:w4.cell? ⟨a.heap.size,0,none⟩=some (gh 0):=by rw[fW V4.r2];rfl
  have f0:=gu V4.r2 0;have ES:=fV (nQ V4.r2 0 (gh 0) rfl);have CS:=fV (GY o.heap.size d f l s.size k4 v4 w4 V4.px);have aX:=fV V4;have aU:=fV aD;clear aM aI aH aD a2 V4 CC;go_wp2_with fail;rw[ES.out];refine CS.out.mono ?_;rintro e w6 ⟨rfl,aB⟩;have V6:=aX.out.k0 aB;have g0:w6.cell? ⟨a.heap.size,0,none⟩=some (gh 0):=by rw[fW V6.r2];rfl
  have g1:w6.cell? ⟨a.heap.size,1,none⟩=some (gh 0):=by rw[fW V6.r2];rfl
  have y1:=gu V6.r2 1;have V7:=V6.set 1 (gh s.size);obtain⟨w7,ag⟩:∃w7,w7=w6.setCell ⟨a.heap.size,1,none⟩ (gh s.size):=⟨_,rfl⟩;rw[<-ag]at V7;have aZ:=fV ag.symm;have CL:=fV (Q4 w7 o.heap.size k4 _ _ _ _ (SZ.of V7.px) V7.tr (ou T) rfl HE.out.2);have ax:=fV V7;clear aB V6 V7 ag CS;go_wp2_with fail;rw[aZ.out];refine CL.out.mono ?_;rintro e w8 ⟨v8,rfl,a3,aC⟩;obtain⟨a8,p8,b6⟩:=gF a3;subst b6;have V8:=ax.out.k0 aC;have g2:w8.cell? ⟨a.heap.size,2,none⟩=some (jc):=by rw[fW V8.r2];rfl
  have y2:=gu V8.r2 2;have V9:=V8.set 2 (.slice a8 (ou T).length p8);have af:(w8.setCell ⟨a.heap.size,2,none⟩ (.slice a8 (ou T).length p8)).ownsRow w.heap.size 57 3 (.slice a8 (ou T).length p8) (ou T).length (pR (ou T)):=((Kept.refl [a.heap.size] w8).setCell (.inl (by simp)) _).ownsRow (jR a3 ax.out.kp.size) (rQ a3 V8.r2 (by decide));obtain⟨w9,ah⟩:∃w9,w9=w8.setCell ⟨a.heap.size,2,none⟩ (.slice a8 (ou T).length p8):=⟨_,rfl⟩;rw[<-ah]at V9 af;have b0:=fV ah.symm;have CX:=fV (Su w9 o.heap.size k4 _ _ _ _ (SZ.of V9.px) V9.tr (HT.out.fr (bm:=0) (.gU V9.kp)).1 (HG.out.kept V9.kp) HE.out.1);have aY:=fV V9;have ar:=fV af;clear a3 aC V8 V9 af ah CL;go_wp2_with fail;rw[b0.out];refine CX.out.mono ?_;rintro e al ⟨rfl,D⟩;obtain⟨C,Y⟩:∃C:gz,C=⟨(SH (vj (Vk sx 1) T)).1.toArray⟩:=⟨_,rfl⟩;rw[<-Y];have aw:=fV Y;have K:=aY.out.k0 D;have g3:al.cell? ⟨a.heap.size,3,none⟩=some (gH jz):=by rw[fW K.r2];rfl
  have y3:=gu K.r2 3;have N:=K.set 3 (gH C);have V:=((Kept.refl [a.heap.size] al).setCell (p:=⟨a.heap.size,3,none⟩) (.inl (by simp)) (gH C)).ownsRow (D.ownsRow ar.out (λ_ _=>by simp)) (rQ (D.ownsRow ar.out (λ_ _=>by simp)) K.r2 (by decide));obtain⟨am,a0⟩:∃am,am=al.setCell ⟨a.heap.size,3,none⟩ (gH C):=⟨_,rfl⟩;rw[<-a0]at N V;have ay:=fV a0.symm;have CT:=fV (aa9 o.heap.size d f l s.size k4 0 v4 L am N.px N.sp (by have:=aU.out;omega));have a9:=fV N;have ap:=fV V;clear D K N V a0 CX Y;go_wp2_with fail;rw[ay.out];refine CT.out.mono ?_;rintro e t ⟨bi,rfl,X,Q⟩;obtain⟨b1,b2,aJ⟩:=gF X;subst aJ;have F:=a9.out.k0 Q;have aa:=Q.ownsRow ap.out (λ_ _=>by simp);have av:=fV (jR X a9.out.kp.size);generalize hlen:(ou T).length=aN at *;generalize hlen2:L.length=aO at *;have a7:=fV hlen;have H:=fV hlen2;have A:=F.r2;have u:=F.r1;have m0:t.cell? ⟨a.heap.size,0,none⟩=some (gh 0):=by rw[fW A];rfl
  have m1:t.cell? ⟨a.heap.size,1,none⟩=some (gh s.size):=by rw[fW A];rfl
  have m2:t.cell? ⟨a.heap.size,2,none⟩=some (.slice a8 aN p8):=by rw[fW A];rfl
  have m3:t.cell? ⟨a.heap.size,3,none⟩=some (gH C):=by rw[fW A];rfl
  have m4:t.cell? ⟨a.heap.size,4,none⟩=some (jc):=by rw[fW A];rfl
  have y4:=gu A 4;have u0:t.cell? ⟨w.heap.size,0,none⟩=some (gh 0):=by rw[fW u];rfl
  have u1:t.cell? ⟨w.heap.size,1,none⟩=some (gh 0):=by rw[fW u];rfl
  have u2:t.cell? ⟨w.heap.size,2,none⟩=some (jc):=by rw[fW u];rfl
  have u3:t.cell? ⟨w.heap.size,3,none⟩=some (gH jz):=by rw[fW u];rfl
  have u4:t.cell? ⟨w.heap.size,4,none⟩=some (jc):=by rw[fW u];rfl
  have j0:=gu u 0;have j1:=gu u 1;have j2:=gu u 2;have j3:=gu u 3;have j4:=gu u 4;have b8:w.heap.size≠a.heap.size:=F.ne;have aK:a.heap.size≠w.heap.size:=λh=>F.ne h.symm;have y:=fV F;have aq:=fV aa;clear F aa A u Q CT X hlen hlen2;go_wp2;refine oR (v:= .tuple #[.agg #[gh 0,gh s.size,.slice a8 aN p8,gH C,.slice b1 aO b2],.bool true]) ?_ rfl ⟨_,_,_,_,_,_,by rw[aw.out];rfl,?_,?_,?_⟩
  .simp[results,results8,asAddr,Result.andThen,go_sem,u0,u1,u2,u3,u4,b8,aK]
  .have h7:=aq.out;rw[<-a7.out]at h7;rw[<-a7.out];have h5:=rQ h7 y.out.r2 (by decide);have h6:=rQ h7 y.out.r1 (by decide);refine Kept.ownsRow (S:=[a.heap.size,w.heap.size]) (((((((Kept.refl _ t).setCell (.inl (by simp)) _).setCell (.inl (by simp)) _).setCell (.inl (by simp)) _).setCell (.inl (by simp)) _).setCell (.inl (by simp)) _).setCell (.inl (by simp)) _) h7 (λq hq=>?_);have a5:=h5 q hq;have a6:=h6 q hq;simp at a5 a6|-;exact⟨a5,a6⟩
  .have h7:=av.out;rw[<-H.out]at h7;rw[<-H.out];have h5:=rQ h7 y.out.r2 (by decide);have h6:=rQ h7 y.out.r1 (by decide);refine Kept.ownsRow (S:=[a.heap.size,w.heap.size]) (((((((Kept.refl _ t).setCell (.inl (by simp)) _).setCell (.inl (by simp)) _).setCell (.inl (by simp)) _).setCell (.inl (by simp)) _).setCell (.inl (by simp)) _).setCell (.inl (by simp)) _) h7 (λq hq=>?_);have a5:=h5 q hq;have a6:=h6 q hq;simp at a5 a6|-;exact⟨a5,a6⟩
  .have m:=y.out.kp;have b4:=y.out.ge;exact(((((m.setCell (.inr b4) _).setCell (.inr (gW _)) _).setCell (.inr (gW _)) _).setCell (.inr (gW _)) _).setCell (.inr (gW _)) _).setCell (.inr (gW _)) _
def TU (s:gz) (d f l:Nat) (g:Nat) (w:gx) (hs:s.size<=1024) (hd:4<=d/\d<=64) (hf:1<=f/\f<=32) (hl:1<=l/\l<=16) (hT:xL w) (hg:Ij w) (G:SX w g) (hn:IL s d f l c p) (hE:errorType w) (aG:0 < w.heap.size):
  Calls prog 8 #[gH s,gh d,gh f,gh l,oe g 3 3] w (Fi w ⟨c,p,[],⟨#[]⟩,[]⟩):=by
 obtain⟨o,J⟩:∃o,o=w.alloc (.cells uB 28):=⟨_,rfl⟩;have k0:Kept [] w o:=by rw[J];exact(Kept.refl _ _).alloc _
 have z0:o.heap.size=w.heap.size+1:=by rw[J];simp
 have r0:o.heap[w.heap.size]?=some (gL uB 28):=by rw[J];exact fX w _
 have CN:=fV (Iw (d:Int) (f:Int) (l:Int) o ⟨by omega,by omega,by omega,by omega,by omega,by omega⟩);have HW:=fV (show w.alloc (.cells uB 28)=o from J.symm);unfold uB at HW;have HE:=fV hE;have HT:=fV hT;have HG:=fV hg;have ay:=fV hn;have av:=fV (G.kept k0 (by simp));have aQ:=G.lt;have aw:=fV k0;have HZ:=fV z0;have HR:=fV r0;clear J k0 z0 r0 hT hg hn hE G;go_enter func8,ntmps8;go_wp2_with fail;rw[HW.out];refine CN.out.mono ?_;rintro e P ⟨rfl,ao,a3⟩;have ab:=fV (av.out.kept a3 (by simp));have a1:Hid (Mj ((d:Int),(f:Int),(l:Int)) P o.heap.size s 0 (jc) P):=⟨ao,by
  have e:s.extract 0 0=⟨#[]⟩:=by apply ve;simp
  rw[e];exact od _ _ _ _,Kept.refl _ _⟩
 have ax:=fV a3;clear ao a3 CN
 by_cases h0:s.size=0
 have e1:ByteArray.empty=s:=by apply ve;exact(Ga h0).symm
 have CW:=wP o.heap.size ((d:Int),(f:Int),(l:Int)) (jc) ⟨#[]⟩ ByteArray.empty P.heap.size P a1.out.iC (od _ _ _ _) (by decide) (gW _);rw[vi]at CW;have z:=fV CW;have hz:((ByteArray.empty).size:Int)=0:=rfl;have E1:=fV e1;obtain⟨cc,af,hc⟩:=ab.out.at_ 0 (by omega);clear e1 CW;go_wp2_with fail;refine uj 2 ?_;rw[nU];rcases xE cc with F|F
 iterate 2
  try subst F
  go_wp2_with fail;refine z.out.mono ?_;rintro e a ⟨rfl,C⟩;rw[E1.out]at C;have ac:=fV C;clear C z;go_wp2_with fail;have C:=ac.out;clear ac h0 hz hc
  rotate_left
 focus
  have aN:=a1;go_wp2_with fail
  go_loopw [14,15] (λaM a9 wr=>∃(k i:Nat) (U:gQ),aM=gh k/\a9=gh i/\k<=i/\i<=s.size/\Mj ((d:Int),(f:Int),(l:Int)) P o.heap.size s i U wr) (λ_ a9 _=>s.size - (intOf a9).toNat)
  case atStart=>exact⟨0,0,_,rfl,rfl,gW _,iN _,a1.out⟩
  obtain⟨k,i,U,rfl,rfl,aR,hi,hP⟩:=hrel;have Q:=fV hP;clear hP
  by_cases aS:i < s.size
  .have aJ:k%3 < 3:=Nat.mod_lt _ (by omega);obtain⟨cc,af,hc⟩:=(ab.out.kept Q.out.kept (by simp;have:=HZ.out;omega)).at_ (k%3) aJ;have aP:(k:Int).tmod 3=((k%3:Nat):Int):=by
    rw[Int.tmod_eq_emod_of_nonneg (by omega)];omega
   have CW:∀n,1<=n->i+n<=s.size->Calls prog 15 #[gN o.heap.size,gH (s.extract i (i+n))] wr λe w'=>e=iw (.tuple #[gh n,gh 0,.bool true])/\∃a8,Mj ((d:Int),(f:Int),(l:Int)) P o.heap.size s (i+n) a8 w':=by
    intro n aT I;have aH:(s.extract i (i+n)).size=n:=by simp;omega
    have aU:(s.extract 0 i).size=i:=by simp;omega
    refine(wP o.heap.size ((d:Int),(f:Int),(l:Int)) U (s.extract 0 i) (s.extract i (i+n)) P.heap.size wr Q.out.iC Q.out.own (by omega) Q.out.kept.size).mono ?_;rintro e w' ⟨rfl,a8,h1,h2,h3,h4⟩;rw[D8 s i n I]at h2;refine⟨by rw[aH],a8,h1,h2,Q.out.kept.next h3 (λx hx=>?_)⟩;rcases List.mem_cons.1 hx with rfl|hx
    .exact .inl (by simp)
    .exact .inr (Q.out.own.lt x (by simpa using hx)).1
   have z:=fV CW;clear CW;generalize hm:k%3=m at *;have Hm:=fV hm;clear hm;rcases xE cc with F|F
   .subst F;have E:=fV (z.out 1 (by omega) (by omega));have aj:i+1<=s.size:=by omega
    go_wp2_with fail;refine E.out.mono ?_;rintro e w5 ⟨rfl,O,u⟩;have D:=fV u;clear u;go_wp2;go_roundw
    case rel=>exact⟨k+1,i+1,O,by go_num,by go_num,by omega,by omega,D.out⟩
    case measure=>simp[intOf];omega
   .by_cases aO:s.size - i < cc
    .have e9:i+(s.size - i)=s.size:=by omega
     have h9:=z.out (s.size - i) (by omega) (by omega);rw[e9]at h9;have E:=fV h9;have E9:=fV e9;clear h9 e9;go_wp2_with fail;refine E.out.mono ?_;rintro e w5 ⟨rfl,O,u⟩;have D:=fV u;clear u;go_wp2;go_roundw
     case rel=>exact⟨k+1,s.size,O,by go_num,by first|go_num|(congr 1;omega),by omega,gW _,D.out⟩
     case measure=>simp[intOf];omega
    .skip
     have E:=fV (z.out cc (by omega) (by omega));have aj:i+cc<=s.size:=by omega
     go_wp2_with fail;refine E.out.mono ?_;rintro e w5 ⟨rfl,O,u⟩;have D:=fV u;clear u;go_wp2;go_roundw
     case rel=>exact⟨k+1,i+cc,O,by go_num,by go_num,by omega,by omega,D.out⟩
     case measure=>simp[intOf];omega
  have e:i=s.size:=by omega
  subst e;go_wp2_with fail;obtain⟨a,aK⟩:∃a,a=wr:=⟨_,rfl⟩;subst aK;have C:∃U,a.heap[o.heap.size]?=some (gL (ry ((d:Int),(f:Int),(l:Int)) U) 76)/\a.ownsRow P.heap.size 5 1 U s.size (kH s)/\Kept (o.heap.size::(jc).ownBlock.toList) P a/\True:=by
   have h1:=Q.out.own;rw[Gy]at h1;exact⟨U,Q.out.iC,h1,Q.out.kept,trivial⟩
 all_goals
  obtain⟨U,a7,aq,ag,_⟩:=C;have I:Kept [] o a:=ax.out.next (S':=o.heap.size::(jc).ownBlock.toList) ag (by simp[Value.ownBlock]);have k3:Kept [] a (a.alloc (.cells #[gh 0,gh 0,jc,gH jz,jc] 28)):=(Kept.refl _ _).alloc _;have N:=(aw.out.trans I).trans k3;have au:=fV (fX a (.cells #[gh 0,gh 0,jc,gH jz,jc] 28));have CC:=fV (GX o.heap.size d f l U s P.heap.size _ (k3.at a7 (by simp)) (k3.ownsRow aq (λ_ _=>by simp)) (HT.out.fr (bm:=0) (.gU N)) (HG.out.kept N) ay.out (HE.out.kept N (by simp)) (by have:=HZ.out;omega));have V:=fV N;have az:=fV (k3.at (I.at HR.out (by simp)) (by simp));have a0:o.heap.size < a.heap.size:=iX a7;have a2:=fV a0;clear a7 aq ag I k3 N a0;go_wp2_with fail;refine CC.out.mono ?_;rintro e w3 ⟨k4,rfl,ap,am,H⟩;have ak:a.heap.size∉[o.heap.size]:=by have:=a2.out;simp;omega
  have al:w.heap.size∉[o.heap.size]:=by have:=HZ.out;simp;omega
  have V3:Kvq w o.heap.size w.heap.size a.heap.size k4 c p d f l #[gh 0,gh 0,jc,gH jz,jc] w3:=
   ⟨ap,am,(HE.out.kept V.out (by simp)).kept H (by have:=HZ.out;simp;omega),H.at az.out al,H.at au.out ak,by have:=HZ.out;have:=a2.out;omega,by have:=HZ.out;have:=a2.out;omega,aG,V.out.next H (by have:=HZ.out;simp;omega)⟩
  have d0:w3.cell? ⟨a.heap.size,0,none⟩=some (gh 0):=by rw[fW V3.r2];rfl
  have f0:=gu V3.r2 0;have V4:=V3.set 0 (gh c);obtain⟨w4,a4⟩:∃w4,w4=w3.setCell ⟨a.heap.size,0,none⟩ (gh c):=⟨_,rfl⟩;rw[<-a4]at V4;have aD:=fV a4.symm;have CS:=fV (Kd o.heap.size d f l c p k4 w4 V4.px V4.st V4.er);have aA:=fV V4;clear ap am H V3 V4 a4 CC;go_wp2_with fail;rw[aD.out];refine CS.out.mono ?_;rintro e w6 ⟨rfl,ah⟩;have V6:=aA.out.k0 ah;have g0:w6.cell? ⟨a.heap.size,0,none⟩=some (gh c):=by rw[fW V6.r2];rfl
  have g1:w6.cell? ⟨a.heap.size,1,none⟩=some (gh 0):=by rw[fW V6.r2];rfl
  have y1:=gu V6.r2 1;have V7:=V6.set 1 (gh p);obtain⟨w7,a5⟩:∃w7,w7=w6.setCell ⟨a.heap.size,1,none⟩ (gh p):=⟨_,rfl⟩;rw[<-a5]at V7;have aE:=fV a5.symm;have CL:=fV (MQ o.heap.size d f l p k4 w7 V7.px);have aB:=fV V7;clear ah V6 V7 a5 CS;go_wp2_with fail;rw[aE.out];refine CL.out.mono ?_;rintro e w8 ⟨rfl,ai⟩;have V8:=aB.out.k0 ai;have g2:w8.cell? ⟨a.heap.size,2,none⟩=some (jc):=by rw[fW V8.r2];rfl
  have y2:=gu V8.r2 2;have V9:=V8.set 2 (jc);obtain⟨w9,a6⟩:∃w9,w9=w8.setCell ⟨a.heap.size,2,none⟩ (jc):=⟨_,rfl⟩;rw[<-a6]at V9;have aF:=fV a6.symm;have CX:=fV (Nn o.heap.size d f l p k4 w9 V9.px);have aC:=fV V9;clear ai V8 V9 a6 CL;go_wp2_with fail;rw[aF.out];refine CX.out.mono ?_;rintro e ar ⟨rfl,Y⟩;have S:=aC.out.k0 Y;have g3:ar.cell? ⟨a.heap.size,3,none⟩=some (gH jz):=by rw[fW S.r2];rfl
  have y3:=gu S.r2 3;have T:=S.set 3 (gH jz);obtain⟨aa,K⟩:∃aa,aa=ar.setCell ⟨a.heap.size,3,none⟩ (gH jz):=⟨_,rfl⟩;rw[<-K]at T;have ae:=fV K.symm;have CT:=fV (KO o.heap.size d f l p k4 aa T.px);have ad:=fV T;clear Y S T K CX;go_wp2_with fail;rw[ae.out];refine CT.out.mono ?_;rintro e t ⟨rfl,Z⟩;have A:=ad.out.k0 Z;have y:=A.r2;have q:=A.r1;have m0:t.cell? ⟨a.heap.size,0,none⟩=some (gh c):=by rw[fW y];rfl
  have m1:t.cell? ⟨a.heap.size,1,none⟩=some (gh p):=by rw[fW y];rfl
  have m2:t.cell? ⟨a.heap.size,2,none⟩=some (jc):=by rw[fW y];rfl
  have m3:t.cell? ⟨a.heap.size,3,none⟩=some (gH jz):=by rw[fW y];rfl
  have m4:t.cell? ⟨a.heap.size,4,none⟩=some (jc):=by rw[fW y];rfl
  have y4:=gu y 4;have u0:t.cell? ⟨w.heap.size,0,none⟩=some (gh 0):=by rw[fW q];rfl
  have u1:t.cell? ⟨w.heap.size,1,none⟩=some (gh 0):=by rw[fW q];rfl
  have u2:t.cell? ⟨w.heap.size,2,none⟩=some (jc):=by rw[fW q];rfl
  have u3:t.cell? ⟨w.heap.size,3,none⟩=some (gH jz):=by rw[fW q];rfl
  have u4:t.cell? ⟨w.heap.size,4,none⟩=some (jc):=by rw[fW q];rfl
  have j0:=gu q 0;have j1:=gu q 1;have j2:=gu q 2;have j3:=gu q 3;have j4:=gu q 4;have aL:w.heap.size≠a.heap.size:=A.ne;have an:a.heap.size≠w.heap.size:=λh=>A.ne h.symm;have X:=fV A;clear A y q Z CT;go_wp2;refine oR (v:= .tuple #[.agg #[gh c,gh p,jc,gH jz,jc],.bool true]) ?_ rfl ⟨_,_,_,_,_,_,rfl,?_,?_,?_⟩
  .simp[results,results8,asAddr,Result.andThen,go_sem,u0,u1,u2,u3,u4,aL,an]
  .exact od _ _ _ _
  .exact od _ _ _ _
  .have m:=X.out.kp;have aI:=X.out.ge;exact(((((m.setCell (.inr aI) _).setCell (.inr (gW _)) _).setCell (.inr (gW _)) _).setCell (.inr (gW _)) _).setCell (.inr (gW _)) _).setCell (.inr (gW _)) _
def TX.ag6 (q:s.size<=1024) {X : Told} (h:TX s X):∀w g,W4 w->SX w g->Calls prog 8 #[gH s,gh 64,gh 32,gh 16,oe g 3 3] w (Fi w X):=by
 intro w g a o;rcases h with⟨c,p,m,rfl⟩|⟨nm,gM,T,L,m,t,rfl⟩
 .exact TU s 64 32 16 g w q (by omega) (by omega) (by omega) a.tab a.gl o m a.er a.el
 .exact TT s 64 32 16 g w q (by omega) (by omega) (by omega) a.tab a.gl o m t
def FI (a h:Option Addr) (c1 c2:Nat) (w:gx):Calls prog 22 #[.slice a 0 c1,.slice h 0 c2] w λe m=>e=iw (.bool true)/\Kept [] w m:=by
 go_enter func22,ntmps22;go_wp2;refine uj 1 ?_;rw[nU];go_wp2;go_ret;exact⟨rfl,Kept.refl _ _⟩
def QW (z A:Nat) (v1 v2:gQ) (L:List Sp) (w:gx) (o:w.ownsRow z 53 3 v1 L.length (kD L)) (t:w.ownsRow A 53 3 v2 L.length (kD L)) (G:L.length<=4096):
  Calls prog 22 #[v1,v2] w λe u=>e=iw (.bool true)/\Kept [] w u:=by
 by_cases m:L.length=0
 .obtain⟨x,a,rfl⟩:=gF o;obtain⟨y,c2,rfl⟩:=gF t;rw[m];exact FI x y a c2 w
 .rcases o.2 with⟨_,h⟩|⟨C,a,H,rfl,_,E,_⟩
  .exact absurd h m
  rcases t.2 with⟨_,h⟩|⟨D,c2,I,rfl,_,F,_⟩
  .exact absurd h m
  refine(Kq C 0 a D 0 c2 L.length (xO L) (xO L) w (R3 o) (R3 t) (by omega) (λ_ _=>rfl)).mono ?_;rintro e u ⟨h,q,rfl⟩;exact⟨h,(Kept.refl [] w).drewN q⟩
def aaM (e a:Int) (t:gz) (b1 b2 b3 b4:Nat) (o q v1 v2:gQ) (I:List It) (L:List Sp) (w:gx) (K:w.ownsRow b3 57 3 o I.length (pR I)) (N:w.ownsRow b4 57 3 q I.length (pR I)) (hI:I.length<=1000000000) (O:w.ownsRow b1 53 3 v1 L.length (kD L)) (P:w.ownsRow b2 53 3 v2 L.length (kD L)) (hL:L.length<=4096):
  Calls prog 9 #[.agg #[gh e,gh a,o,gH t,v1],.agg #[gh e,gh a,q,gH t,v2]] w λJ w'=>J=iw (.bool true)/\Kept [] w w':=by
 obtain⟨a1,c1,Q⟩:=gF O;obtain⟨a2,c2,S⟩:=gF P;obtain⟨a3,c3,T⟩:=gF K;obtain⟨a4,c4,U⟩:=gF N;have u:Kept [] w ((w.alloc (.cells #[gh e,gh a,o,gH t,v1] 28)).alloc (.cells #[gh e,gh a,q,gH t,v2] 28)):=((Kept.refl [] w).alloc _).alloc _;have Z:=fV (QV b3 b4 o q I _ (u.ownsRow K (λ_ _=>by simp)) (u.ownsRow N (λ_ _=>by simp)) hI);have CS:=fV (λW (hk:Kept [] ((w.alloc (.cells #[gh e,gh a,o,gH t,v1] 28)).alloc (.cells #[gh e,gh a,q,gH t,v2] 28)) W)=>QW b1 b2 v1 v2 L W (hk.ownsRow (u.ownsRow O (λ_ _=>by simp)) (λ_ _=>by simp)) (hk.ownsRow (u.ownsRow P (λ_ _=>by simp)) (λ_ _=>by simp)) hL);have C:=fV (show((w.alloc (.cells #[gh e,gh a,o,gH t,v1] 28)).alloc (.cells #[gh e,gh a,q,gH t,v2] 28)).heap[w.heap.size]?=some (gL #[gh e,gh a,o,gH t,v1] 28) by
  rw[Below.heap_alloc _ _ _ (by simp)];exact fX w _)
 have D:=fV (show((w.alloc (.cells #[gh e,gh a,o,gH t,v1] 28)).alloc (.cells #[gh e,gh a,q,gH t,v2] 28)).heap[w.heap.size+1]?=some (gL #[gh e,gh a,q,gH t,v2] 28) by
  have:=fX (w.alloc (.cells #[gh e,gh a,o,gH t,v1] 28)) (.cells #[gh e,gh a,q,gH t,v2] 28)
  simpa using this)
 subst Q S T U;have HK:=fV u;clear O P K N u;go_enter func9,ntmps9;go_wp2_with fail;refine Z.out.mono ?_;rintro J V ⟨rfl,h⟩;have X:=h.at C.out (by simp);have Y:=h.at D.out (by simp);have r4:V.cell? ⟨w.heap.size,4,none⟩=some (.slice a1 L.length c1):=by rw[fW X];rfl
 have t4:V.cell? ⟨w.heap.size+1,4,none⟩=some (.slice a2 L.length c2):=by rw[fW Y];rfl
 have A:=fV (CS.out V h);have G:=fV X;have H:=fV Y;have E:=fV (HK.out.trans h);clear h X Y CS Z;go_wp2_with fail;refine A.out.mono ?_;rintro J x ⟨rfl,m⟩;have y:=m.at G.out (by simp);have z:=m.at H.out (by simp);have p0:x.cell? ⟨w.heap.size,0,none⟩=some (gh e):=by rw[fW y];rfl
 have p1:x.cell? ⟨w.heap.size,1,none⟩=some (gh a):=by rw[fW y];rfl
 have p3:x.cell? ⟨w.heap.size,3,none⟩=some (gH t):=by rw[fW y];rfl
 have q0:x.cell? ⟨w.heap.size+1,0,none⟩=some (gh e):=by rw[fW z];rfl
 have q1:x.cell? ⟨w.heap.size+1,1,none⟩=some (gh a):=by rw[fW z];rfl
 have q3:x.cell? ⟨w.heap.size+1,3,none⟩=some (gH t):=by rw[fW z];rfl
 have F:=fV (E.out.trans m);clear m y z;go_wp2;go_ret;exact⟨rfl,F.out⟩
def J6 (c:Int) (w:gx) (t: -9223372036854775808<=c) (u:c<=9223372036854775807):
  Calls prog 7 #[gh c,gh 40] w λe q=>(∃m:Nat,m<=39/\e=iw (gh m))/\q=w:=by
 by_cases x:c < 0
 .have h:0<= -(c+1):=by omega
  have o:(-(c+1)).tmod 40=(((-(c+1)).toNat%40:Nat):Int):=by rw[Int.tmod_eq_emod_of_nonneg h];omega
  go_enter func7,ntmps7;go_wp2;go_ret;refine⟨⟨(-(c+1)).toNat%40,by omega,?_⟩,rfl⟩;have a:max (-(c+1)) 0%40=(((-(c+1)).toNat%40:Nat):Int):=by omega
  show Ending.returned (Value.int .i64 (max (-(c+1)) 0%40))=_;rw[a]
 .have o:c.tmod 40=((c.toNat%40:Nat):Int):=by rw[Int.tmod_eq_emod_of_nonneg (by omega)];omega
  go_enter func7,ntmps7;go_wp2;go_ret;refine⟨⟨c.toNat%40,by omega,?_⟩,rfl⟩;have a:max c 0%40=((c.toNat%40:Nat):Int):=by omega
  show Ending.returned (Value.int .i64 (max c 0%40))=_;rw[a]
def XH (s:gz) (a b c:Int) (w:gx) (hs:s.size<=140737488355328) (ha: -9223372036854775808<=a/\a<=9223372036854775807) (hb: -9223372036854775808<=b/\b<=9223372036854775807) (hc: -9223372036854775808<=c/\c<=9223372036854775807) (hw:W4 w):
  Calls prog 3 #[gH s,gh a,gh b,gh c] w λe w'=>e=iw (.bool true)/\Kept [] w w':=by
 by_cases ad:1024 < s.size
 .clear hw;go_enter func3,ntmps3;go_wp2;go_ret;exact⟨rfl,Kept.refl _ _⟩
 .have P:s.size<=1024:=by omega
  obtain⟨X,hX,N⟩:=adF s P;have hC:=N.one P;have hD:=N.ag6 P;have HX:=fV hX;have HC:=fV hC;have HD:=fV hD;have P1:=fV (J6 a w ha.1 ha.2);have P2:=fV (J6 b w hb.1 hb.2);have P3:=fV (J6 c w hc.1 hc.2);have Z:=fV hw;clear hw ha hb hc hX hC hD N;go_enter func3,ntmps3;go_wp2_with fail;refine P1.out.mono ?_;rintro e w1 ⟨⟨m1,ae,rfl⟩,rfl⟩;go_wp2_with fail;refine P2.out.mono ?_;rintro e w2 ⟨⟨m2,af,rfl⟩,rfl⟩;go_wp2_with fail;refine P3.out.mono ?_;rintro e H ⟨⟨m3,ag,rfl⟩,rfl⟩;obtain⟨U,C⟩:∃U,U=H.alloc (.cells #[gh m1,gh m2,gh m3] 3):=⟨_,rfl⟩;have ka:Kept [] H U:=by rw[C];exact(Kept.refl _ _).alloc _
  have o:U.heap[H.heap.size]?=some (gL #[gh m1,gh m2,gh m3] 3):=by rw[C];exact fX H _
  have a1:SX U H.heap.size:=by
   refine⟨iX o,λk hk=>?_⟩
   match k,hk with
   |0,_=>exact⟨m1,ae,by rw[fW o];rfl⟩
   |1,_=>exact⟨m2,af,by rw[fW o];rfl⟩
   |2,_=>exact⟨m3,ag,by rw[fW o];rfl⟩
  have za:H.heap.size < U.heap.size:=iX o;have C1:=fV (HC.out U (Z.out.kept ka));have aa:=fV C.symm;have a5:=fV ka;have a4:=fV a1;have aj:=fV za;clear C ka o a1 P1 P2 P3 za HC;go_wp2_with fail;rw[aa.out];refine C1.out.mono ?_;rintro e G ⟨va,na,ca,ta,F,tc,rfl,Q,E,O⟩;obtain⟨A,Y,ah,q,z⟩:=X;dsimp only at Q E|-;have x:A≠0\/s.size=0\/0 < z.length:=by
   rcases HX.out.or with⟨h,_⟩|⟨_,_,cut,hT⟩
   .exact .inl h
   .rcases xE z.length with h|h
    .have h1:cut z.length=s.size:=hT.last;have h2:=hT.zero;rw[h]at h1;exact .inr (.inl (by omega))
    .exact .inr (.inr h)
  obtain⟨_,_,et⟩:=gF E;have ac:F=z.length:=(Value.slice.inj et).2.1;have a9:Hid (A≠0\/s.size=0\/(0 < F/\F<=1024)):=by
   have h7:=HX.out.spl;dsimp only at h7;rcases x with h|h|h
   .exact fV (.inl h)
   .exact fV (.inr (.inl h))
   .exact fV (.inr (.inr ⟨by omega,by omega⟩))
  clear et ac x;obtain⟨wc,D⟩:∃wc,wc=G.alloc (.cells #[gh A,gh Y,.slice va na ca,gH q,.slice ta F tc] 28):=⟨_,rfl⟩;have kc:Kept [] G wc:=by rw[D];exact(Kept.refl _ _).alloc _
  have bc:=show wc.heap[G.heap.size]?=some (gL #[gh A,gh Y,.slice va na ca,gH q,.slice ta F tc] 28) by rw[D];exact fX G _
  have y:Kept [] H wc:=(a5.out.trans O).trans kc;have C2:=fV (HD.out wc H.heap.size (Z.out.kept y) (a4.out.kept (O.trans kc) (by simp)));have ab:=fV D.symm;have a3:=fV bc;have a6:=fV y;have a7:=fV (kc.ownsRow Q (λ_ _=>by simp));have a8:=fV (kc.ownsRow E (λ_ _=>by simp));clear D kc bc y O C1 Q E HD;go_wp2_with fail;rw[ab.out];refine C2.out.mono ?_;rintro e I ⟨vb,nb,cb,ub,ud,uc,rfl,S,T,u⟩;dsimp only at S T|-;have K:=u.at a3.out (by simp);have ak:I.cell? ⟨G.heap.size,0,none⟩=some (gh A):=by rw[fW K];rfl
  have al:I.cell? ⟨G.heap.size,1,none⟩=some (gh Y):=by rw[fW K];rfl
  have am:I.cell? ⟨G.heap.size,2,none⟩=some (.slice va na ca):=by rw[fW K];rfl
  have an:I.cell? ⟨G.heap.size,3,none⟩=some (gH q):=by rw[fW K];rfl
  have ao:I.cell? ⟨G.heap.size,4,none⟩=some (.slice ta F tc):=by rw[fW K];rfl
  have aq:=iX K;have V:Kept [] I (I.alloc (.cells #[gh A,gh Y,.slice vb nb cb,gH q,.slice ub ud uc] 28)):=(Kept.refl _ _).alloc _;have CS:=fV (aaM (A:Int) (Y:Int) q _ _ _ _ (.slice va na ca) (.slice vb nb cb) (.slice ta F tc) (.slice ub ud uc) ah z (I.alloc (.cells #[gh A,gh Y,.slice vb nb cb,gH q,.slice ub ud uc] 28)) (V.ownsRow (u.ownsRow a7.out (λ_ _=>by simp)) (λ_ _=>by simp)) (V.ownsRow S (λ_ _=>by simp)) HX.out.SS (V.ownsRow (u.ownsRow a8.out (λ_ _=>by simp)) (λ_ _=>by simp)) (V.ownsRow T (λ_ _=>by simp)) (by have:=HX.out.spl;dsimp only at this;omega));have J:=fV ((a6.out.trans u).trans V);clear u K V C2 S T
  by_cases a0:A=0
  .subst a0
   by_cases h9:s.size=0
   .go_wp2_with fail;refine CS.out.mono ?_;rintro e we ⟨rfl,m⟩;have t:=fV (J.out.trans m);clear m;go_wp2;go_ret;exact⟨rfl,t.out⟩
   .have a2:0 < F/\F<=1024:=by
     rcases a9.out with h|h|h
     .exact absurd rfl h
     .exact absurd h h9
     .exact h
    obtain⟨a2,ai⟩:=a2;go_wp2_with fail;refine CS.out.mono ?_;rintro e we ⟨rfl,m⟩;have t:=fV (J.out.trans m);clear m;go_wp2;go_ret;exact⟨rfl,t.out⟩
  .have ap:(A:Int)≠0:=by omega
   clear a0;go_wp2_with fail;refine CS.out.mono ?_;rintro e we ⟨rfl,m⟩;have t:=fV (J.out.trans m);clear m;go_wp2;go_ret;exact⟨rfl,t.out⟩
end
end Go.Proofs.YtlhhgenpcjjajaaGreatDoor
