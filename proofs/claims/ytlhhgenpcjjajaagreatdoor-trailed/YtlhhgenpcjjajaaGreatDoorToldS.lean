import Derived.Test.YtlhhgenpcjjajaaGreatDoorIvM
set_option linter.unusedSimpArgs false
set_option linter.unusedVariables false
set_option linter.defProp false
set_option maxHeartbeats 0
set_option maxRecDepth 100000
namespace Go.Proofs.YtlhhgenpcjjajaaGreatDoor
open Go.RowKit Go.Extern.Stop Go.Stop Go.Extern Go.PlainAid Tryz
def Am:=@cell_of_one
def AZ:=@wpAny_ready
def xY:=@AllReady.cons
def vi:=@AllReady.nil
def xN:=@Nat.le_mul_of_pos_left
def M7:=@List.flatMap_cons
def wU:=@List.flatMap_nil
def Fv:=@Value.slice.inj
section
variable {B R1 R2 b bx c i j k lg n p ps : Nat} {L : List Sp} {R : RC} {W w w' : fO} {c2 : jB} {cut r : Nat->Nat} {d f l : Int} {e : Al} {look : fN->Option fN} {s : fN} {v : gh} {vv : gh×Bool} {σ : Ab}
def Of (p:Addr) (t:Nat) (a:gh) (w:fO) (m:errorType w) (g:w.heap[t]?=some (fV #[a] 78)):
  Calls prog 34 #[.iface 78 (.pointer (some p)),.iface 80 (fW t)] w λh w'=>h=gO (.bool true)/\w'.heap[t]?=some (fV #[.pointer (some p)] 78)/\Kept [t] w w':=by
 refine(Qi p ⟨t,0,none⟩ a w m (Am g) (free_of_one g)).mono ?_;rintro e w' ⟨rfl,rfl⟩;refine⟨rfl,one_setCell (v:=a) ?_,?_⟩
 .have o:=iB g;rw[Below.heap_alloc _ _ _ (by simp;omega),Below.heap_alloc _ _ _ (by simp;omega),Below.heap_alloc _ _ _ (by simp;omega),Below.heap_alloc _ _ _ o];exact g
 .exact Kept.setCell ((((Kept.refl _ _).alloc _).alloc _).alloc _|>.alloc _) (.inl (by simp)) _
def Jh (p:Nat) (g k:Int) (t:Nat) (a:gh) (w:fO) (u:w.heap[p]?=some (fV #[fK k,fK g] 83)) (o:errorType w) (h:w.heap[t]?=some (fV #[a] 24)):
  Calls prog 34 #[.iface 78 (fW p),.iface 85 (fW t)] w λm w'=>m=gO (.bool true)/\w'.heap[t]?=some (fV #[fK k] 24)/\Kept [t] w w':=by
 refine(Ks p g k ⟨t,0,none⟩ a w u o (Am h) (free_of_one h)).mono ?_;rintro e w' ⟨rfl,rfl⟩;refine⟨rfl,one_setCell (v:=a) ?_,?_⟩
 .have q:=iB h;rw[Below.heap_alloc _ _ _ (by simp;omega),Below.heap_alloc _ _ _ (by simp;omega),Below.heap_alloc _ _ _ (by simp;omega),Below.heap_alloc _ _ _ q];exact h
 .exact Kept.setCell ((((Kept.refl _ _).alloc _).alloc _).alloc _|>.alloc _) (.inl (by simp)) _
def Xn (p:Nat) (a k:Int) (w:fO) (z:w.heap[p]?=some (fV #[fK k,fK a] 83)) (E:errorType w):
  Calls prog 50 #[.iface 78 (fW p)] w λe w'=>e=gO (.tuple #[fK k,.bool true])/\Kept [] w w':=by
 have F:∀(x:Fn) (first g:jB) (w:fO),(Instr.makeFunc x first g).run prog w= .ok (.func x first g) w:=λ_ _ _ _=>rfl;have q:=rR (rR E (.cells #[fK 0] 24)) (.cells #[.bool false] 4);have t:=iB z;have h:((w.alloc (.cells #[fK 0] 24)).alloc (.cells #[.bool false] 4)).heap[p]?=some (fV #[fK k,fK a] 83):=by
  rw[Below.heap_alloc _ _ _ (by simp;omega),Below.heap_alloc _ _ _ t];exact z
 go_enter_defers func50,ntmps50
 go_wp21
 refine(Jh p a k w.heap.size _ _ h q (by rw[Below.heap_alloc _ _ _ (by simp)];exact fB _ _)).mono ?_;rintro e u ⟨rfl,m,y⟩;have o:u.heap[w.heap.size+1]?=some (fV #[.bool false] 4):=by
  refine y.at ?_ (by simp);have:=fB (w.alloc (.cells #[fK 0] 24)) (.cells #[.bool false] 4)
  simpa using this
 have D:=Am m;have c2:=Am o;have H:=free_of_one m;have I:=free_of_one o;have A:Kept [] w u:=((((Kept.refl _ _).alloc _).alloc _).trans (S:=[w.heap.size]) y).mono (by simp);have K:=iB m;have N:=iB o
 go_wp21
 go_region
 all_goals go_wp2
 refine leaves_cons (f:=66) (args:=#[fW w.heap.size,fW (w.heap.size+1)]) (by simp) (by simp[go_sem]) ?_;refine(Te ⟨w.heap.size,0,none⟩ ⟨w.heap.size+1,0,none⟩ _).mono ?_;rintro e J G ⟨rfl,rfl,rfl⟩;have C:Kept [] w (((u.setCell ⟨w.heap.size+1,0,none⟩ (.bool true)).setCell ⟨w.heap.size,0,none⟩ (fK k)).setCell ⟨w.heap.size+1,0,none⟩ (.bool true)).drew:=
  (((A.setCell (.inr (by simp)) _).setCell (.inr (by simp)) _).setCell (.inr (by simp)) _).drew
 simp[Go.Leaves,settle,results,results50,go_sem,D,c2];exact C
def AX (p:Nat) (a k:Int) (w:fO) (m:w.heap[p]?=some (fV #[fK k,fK a] 83)) (g:errorType w):
  Calls prog 36 #[.iface 78 (fW p)] w λe w'=>e=gO (fK k)/\Kept [] w w':=by
 have H:=Xn p a k w m g;go_enter func36,ntmps36
 go_wp21
 refine H.mono ?_;rintro e w' ⟨rfl,h⟩;go_wp2;go_ret;exact⟨rfl,h⟩
def LP (p:Nat) (m k:Int) (w:fO) (O:w.heap[p]?=some (fV #[fK k,fK m] 83)) (G:errorType w):
  Calls prog 26 #[.iface 78 (fW p)] w λe w'=>e=gO (.tuple #[fK k,fK m])/\Kept [] w w':=by
 have A:=rR (rR G (.cells #[.pointer none] 78)) (.cells #[fK 0] 24);have J:=O;have I:=G;go_enter func26,ntmps26
 go_wp21
 refine uN (by rfl) ?_;change wpAny _ _ _ _ _ _ _ (World.drew _);refine jZ (i:=0) (some 10) (.iface 78 (fW p)) rfl rfl (by kernel_rfl) (by kernel_rfl) (by kernel_rfl) (λ_ _ _ h=>h) (by kernel_rfl) (λ_=>by kernel_rfl) ?_;simp only[Act.put,p9,pX,pZ];refine jZ (i:=1) (some 11) (.iface 80 (fW w.heap.size)) rfl rfl (by kernel_rfl) (by kernel_rfl) (by kernel_rfl) (λ_ _ _ h=>h) (by kernel_rfl) (λ_=>by kernel_rfl) ?_;simp only[Act.put,p9,pX,pZ];refine AZ (rs:=[2]) (by kernel_rfl) (by simp) ?_;refine xY rfl (λK a=>?_) vi;go_simp
 go_wp21
 refine(Of ⟨p,0,none⟩ w.heap.size _ _ (JF A) (by show((w.alloc _).alloc _).heap[w.heap.size]?=_;rw[Below.heap_alloc _ _ _ (by simp)];exact fB _ _)).mono ?_;rintro e H ⟨rfl,z,N⟩;have t:Kept [] w H:=(((Kept.refl _ _).alloc _).alloc _).drew.next N (by simp);have x:=Je I t (by simp);have o:=t.at J (by simp);have Q:=Am z;have P:H.cell? ⟨p,0,none⟩=some (fK k):=by simp[World.cell?,o]
 refine a _ _ ?_;refine jZ (i:=3) (some 13) (.bool true) rfl rfl (by kernel_rfl) (by kernel_rfl) (by kernel_rfl) (λ_ _ _ h=>h) (by kernel_rfl) (λ_=>by kernel_rfl) ?_;simp only[Act.put,p9,pX,pZ];refine jZ (i:=4) (some 14) (.iface 78 (fW p)) rfl rfl (by kernel_rfl) (by kernel_rfl) (by kernel_rfl) (λ_ _ _ h=>h) (by kernel_rfl) (λ_=>by kernel_rfl) ?_;simp only[Act.put,p9,pX,pZ];refine AZ (rs:=[5]) (by kernel_rfl) (by simp) ?_;refine xY rfl (λK a=>?_) vi;go_simp;refine a _ _ ?_;refine jZ (i:=6) (some 16) (fW p) rfl rfl (by kernel_rfl) (by kernel_rfl) (by kernel_rfl) (λ_ _ _ h=>h) (by kernel_rfl) (λ_=>by kernel_rfl) ?_;simp only[Act.put,p9,pX,pZ];refine jZ (i:=7) (some 17) (fW p) rfl rfl (by kernel_rfl) (by kernel_rfl) (by kernel_rfl) (λ_ _ _ h=>h) (by kernel_rfl) (λ_=>by kernel_rfl) ?_;simp only[Act.put,p9,pX,pZ];refine AZ (rs:=[8]) (by kernel_rfl) (by simp) ?_;refine xY rfl (λK a=>?_) vi;go_simp;refine a _ _ ?_;refine jZ (i:=9) (some 19) (.iface 24 (fK k)) rfl rfl (by kernel_rfl) (by kernel_rfl) (by kernel_rfl) (λ_ _ _ h=>h) (by kernel_rfl) (λ_=>by kernel_rfl) ?_;simp only[Act.put,p9,pX,pZ];refine AZ (rs:=[10]) (by kernel_rfl) (by simp) ?_;refine xY rfl (λK a=>?_) vi;go_simp
 go_wp21
 refine(ab7 p m k _ o).mono ?_;rintro e S ⟨rfl,C⟩;subst C;refine a _ _ ?_;refine jZ (i:=11) (some 21) (.bool true) rfl rfl (by kernel_rfl) (by kernel_rfl) (by kernel_rfl) (λ_ _ _ h=>h) (by kernel_rfl) (λ_=>by kernel_rfl) ?_;simp only[Act.put,p9,pX,pZ];refine jZ (i:=12) (some 22) (.bool true) rfl rfl (by kernel_rfl) (by kernel_rfl) (by kernel_rfl) (λ_ _ _ h=>h) (by kernel_rfl) (λ_=>by kernel_rfl) ?_;simp only[Act.put,p9,pX,pZ];refine jZ (i:=13) (some 23) (.iface 78 (fW p)) rfl rfl (by kernel_rfl) (by kernel_rfl) (by kernel_rfl) (λ_ _ _ h=>h) (by kernel_rfl) (λ_=>by kernel_rfl) ?_;simp only[Act.put,p9,pX,pZ];refine AZ (rs:=[14,15]) (by kernel_rfl) (by simp) ?_;refine xY rfl (λK a=>?_) (xY rfl (λK a=>?_) vi)
 .go_simp
  go_wp21
  refine(AX p m k _ o x).mono ?_;rintro e u ⟨rfl,g⟩;have y:Kept [] w u:=t.next g (by simp);have E:=Am (g.at z (by simp));have q:=g.at o (by simp);have D:u.cell? ⟨p,0,none⟩=some (fK k):=by simp[World.cell?,q]
  have F:u.cell? ⟨p,1,none⟩=some (fK m):=by simp[World.cell?,q]
  refine a _ _ ?_;refine AZ (rs:=[15]) (by kernel_rfl) (by simp) ?_;refine xY rfl (λK a=>?_) vi;go_simp;refine a _ _ ?_;refine jZ (i:=16) (some 26) (fW p) rfl rfl (by kernel_rfl) (by kernel_rfl) (by kernel_rfl) (λ_ _ _ h=>h) (by kernel_rfl) (λ_=>by kernel_rfl) ?_;simp only[Act.put,p9,pX,pZ];refine jZ (i:=17) (some 27) (fW p) rfl rfl (by kernel_rfl) (by kernel_rfl) (by kernel_rfl) (λ_ _ _ h=>h) (by kernel_rfl) (λ_=>by kernel_rfl) ?_;simp only[Act.put,p9,pX,pZ];refine AZ (rs:=[18]) (by kernel_rfl) (by simp) ?_;refine xY rfl (λK a=>?_) vi;go_simp;refine a _ _ ?_;refine jZ (i:=19) (some 29) (.bool true) rfl rfl (by kernel_rfl) (by kernel_rfl) (by kernel_rfl) (λ_ _ _ h=>h) (by kernel_rfl) (λ_=>by go_simp) ?_;simp only[Act.put,p9,pX,pZ];refine jZ (i:=20) (some 30) (.bool true) rfl rfl (by kernel_rfl) (by kernel_rfl) (by kernel_rfl) (λ_ _ _ h=>h) (by kernel_rfl) (λ_=>by kernel_rfl) ?_;simp only[Act.put,p9,pX,pZ];refine jZ (i:=21) (some 9) (.bool true) rfl rfl (by kernel_rfl) (by kernel_rfl) (by kernel_rfl) (λ_ _ _ h=>h) (by kernel_rfl) (λ_=>by kernel_rfl) ?_;simp only[Act.put,p9,pX,pZ];refine wpAny_done (by kernel_rfl) ?_ _
  go_wp21
  go_quiet (fail)
  go_wp2;go_ret2;exact⟨rfl,y.next ((Kept.refl [] _).drewN _) (by simp)⟩
 .go_simp;refine a _ _ ?_;refine jZ (i:=16) (some 26) (fW p) rfl rfl (by kernel_rfl) (by kernel_rfl) (by kernel_rfl) (λ_ _ _ h=>h) (by kernel_rfl) (λ_=>by kernel_rfl) ?_;simp only[Act.put,p9,pX,pZ];refine jZ (i:=17) (some 27) (fW p) rfl rfl (by kernel_rfl) (by kernel_rfl) (by kernel_rfl) (λ_ _ _ h=>h) (by kernel_rfl) (λ_=>by kernel_rfl) ?_;simp only[Act.put,p9,pX,pZ];refine AZ (rs:=[14,18]) (by kernel_rfl) (by simp) ?_;refine xY rfl (λK a=>?_) (xY rfl (λK a=>?_) vi)
  .go_simp
   go_wp21
   refine(AX p m k _ o x).mono ?_;rintro e u ⟨rfl,g⟩;have y:Kept [] w u:=t.next g (by simp);have E:=Am (g.at z (by simp));have q:=g.at o (by simp);have D:u.cell? ⟨p,0,none⟩=some (fK k):=by simp[World.cell?,q]
   have F:u.cell? ⟨p,1,none⟩=some (fK m):=by simp[World.cell?,q]
   refine a _ _ ?_;refine AZ (rs:=[18]) (by kernel_rfl) (by simp) ?_;refine xY rfl (λK a=>?_) vi;go_simp;refine a _ _ ?_;refine jZ (i:=19) (some 29) (.bool true) rfl rfl (by kernel_rfl) (by kernel_rfl) (by kernel_rfl) (λ_ _ _ h=>h) (by kernel_rfl) (λ_=>by go_simp) ?_;simp only[Act.put,p9,pX,pZ];refine jZ (i:=20) (some 30) (.bool true) rfl rfl (by kernel_rfl) (by kernel_rfl) (by kernel_rfl) (λ_ _ _ h=>h) (by kernel_rfl) (λ_=>by kernel_rfl) ?_;simp only[Act.put,p9,pX,pZ];refine jZ (i:=21) (some 9) (.bool true) rfl rfl (by kernel_rfl) (by kernel_rfl) (by kernel_rfl) (λ_ _ _ h=>h) (by kernel_rfl) (λ_=>by kernel_rfl) ?_;simp only[Act.put,p9,pX,pZ];refine wpAny_done (by kernel_rfl) ?_ _
   go_wp21
   go_quiet (fail)
   go_wp2;go_ret2;exact⟨rfl,y.next ((Kept.refl [] _).drewN _) (by simp)⟩
  .go_simp;refine a _ _ ?_;refine AZ (rs:=[14]) (by kernel_rfl) (by simp) ?_;refine xY rfl (λK a=>?_) vi;go_simp
   go_wp21
   refine(AX p m k _ o x).mono ?_;rintro e u ⟨rfl,g⟩;have y:Kept [] w u:=t.next g (by simp);have E:=Am (g.at z (by simp));have q:=g.at o (by simp);have D:u.cell? ⟨p,0,none⟩=some (fK k):=by simp[World.cell?,q]
   have F:u.cell? ⟨p,1,none⟩=some (fK m):=by simp[World.cell?,q]
   refine a _ _ ?_;refine jZ (i:=19) (some 29) (.bool true) rfl rfl (by kernel_rfl) (by kernel_rfl) (by kernel_rfl) (λ_ _ _ h=>h) (by kernel_rfl) (λ_=>by go_simp) ?_;simp only[Act.put,p9,pX,pZ];refine jZ (i:=20) (some 30) (.bool true) rfl rfl (by kernel_rfl) (by kernel_rfl) (by kernel_rfl) (λ_ _ _ h=>h) (by kernel_rfl) (λ_=>by kernel_rfl) ?_;simp only[Act.put,p9,pX,pZ];refine jZ (i:=21) (some 9) (.bool true) rfl rfl (by kernel_rfl) (by kernel_rfl) (by kernel_rfl) (λ_ _ _ h=>h) (by kernel_rfl) (λ_=>by kernel_rfl) ?_;simp only[Act.put,p9,pX,pZ];refine wpAny_done (by kernel_rfl) ?_ _
   go_wp21
   go_quiet (fail)
   go_wp2;go_ret2;exact⟨rfl,y.next ((Kept.refl [] _).drewN _) (by simp)⟩
attribute [local go_sem] Oper.semAt_some
theorem ZS (w:fO) (bx k:Nat) (c:jB) (G:fN) (fX:kZ) (ts:List Tn) (hp:VH w bx c k) (h:jo w (.el G fX ts) (.el k)) (z:List It) (ht:kX (uZ (λ_=>false) ts)=z) (hn:z.length<=1000000000):
  Calls prog 18 #[fW bx] w λe w'=>∃v,e=gO v/\w'.ownsRow w.heap.size 57 3 v z.length (wG z)/\Kept [] w w':=by
 refine(wV (n:=5)).1 ?_;refine wL func18 rfl trivial ?_ rfl;simp only[ntmps18,xC,sV,vZ,Nat.reduceAdd,Nat.reduceSub,xn,xj,xm,xI,rM,vz];have HP:=hp;have HT:=h;have a2:=ht
 gi_wp2_with (refine⟨trivial,?_⟩;gi_at_call 30;refine(callsIn_wide.2 (MC _ bx)).mono ?_;rintro e w' ⟨rfl,rfl⟩)
 obtain⟨w1,F⟩:∃w1,w1=w.alloc (fV #[iQ] 25):=⟨_,rfl⟩;have z1:w1.heap.size=w.heap.size+1:=by rw[F];simp
 have k1:Kept [] w w1:=by rw[F];exact(Kept.refl _ _).alloc _
 have g1:w1.heap[w.heap.size]?=some (fV #[iQ] 25):=by rw[F];exact fB w _
 rw[<-F];have⟨i0,hi,hz0,hz1,hz2⟩:=tL WY;have HE:=enters_of func39 (by rfl) rfl;have a6:=a2;have HC:=(λl J W hY hm h0 hK=>aaV l bx k c G fX ts w HP HT J (by omega) hm W hK h0);rw[a6]at HC;refine JK (by omega) (gf:=39) (recv:=fW bx) rfl HE z w HC
  (λpre W=>∃v,W.heap[w.heap.size]?=some (fV #[v] 25)/\W.ownsRow (w.heap.size+1) 57 3 v pre.length (wG pre)/\Kept [] w W)
  (λ_ _ h=>by grind) ?_ ?_ ⟨_,g1,oD _ _ _ _,k1⟩
  (λx a' W=>∃X,w.heap.size+1<=X/\W.heap[X]?=some (fV #[fK x.k,fR x.s,fR x.t] 57)/\a'={tmps:=#[fW bx,undef,iQ,fW w.heap.size,fW X,fW bx,.func (.func 39) #[fW bx] #[],x.val,undef,undef,undef,undef,undef],defers:=[]}) ?_ ?assign ?body ?done
 .rintro pre W W' ⟨v,a,t,I⟩ V;exact⟨v,V.at a (by simp),V.ownsRow t (λ_ _=>by simp),I.trans V⟩
 .rintro pre W k r o' V hl ⟨v,a,t,I⟩;exact⟨v,(p5 (by omega)).trans a,UR t hl rfl _,QZ I (by omega) _⟩
 .rintro x a' W k r o' V hl ⟨X,a,t,I⟩;refine⟨X,a,(p5 ?_).trans t,I⟩
  grind
 case assign=>
  rintro l pre x W K ⟨v,a,t,I⟩ hK;have hz:=I.size;have hB:=iB a;gi_wp2;exact hK _ _ ((Kept.refl [] W).alloc _) ⟨W.heap.size,by omega,fB W _,rfl⟩
 case body=>
  rintro l pre x a' W ⟨v,a,t,C⟩ ⟨X,hX,h4,rfl⟩ Y;have S:pre.length+1<=z.length:=by have:=Y.length_le;simpa using this
  have HZ:=C.size;have T:=fw a 0;have f1:=fA a 0;have x0:=fw h4 0;have x1:=fw h4 1;have x2:=fw h4 2;dsimp at T x0 x1 x2;have⟨ao,cp,hv⟩:=fS t;subst hv;have P:=fx a;have y:=fx t;have Q:=(λo=>(Kept.refl [] W).alloc o);have a0:=(λo=>KeepsOthers.alloc W o);have a4:=iB a;have HB:=fx a4;have a1:=hn;clear a t
  gi_wp2_with (gi_at_builtin;refine wpListIn_append_own _ rfl _ _ 25 rfl (w.heap.size+1) 57 i0 (.agg #[fK 0,fR js,fR js]) 3 40 underlying25 hi hz0 hz1 hz2 rfl (by decide) _ _ _ rfl (y.out.alloc _) ⟨W.heap.size,0,none⟩ 1 1 [fK x.k,fR x.s,fR x.t] rfl rfl ?T ?c2 ?c3 ?c4 ?c5 ?_)
  case T=>
   intro j u hj;have hg:=fB W (fV #[fK x.k,fR x.s,fR x.t] 57);rw[iT,fw hg]
   grind
  case c2=>
   intro u hu;simp at hu;rcases hu with rfl|rfl|rfl<;>rfl
  case c3=>have:=S;have:=a1;unfold maxLen;omega
  case c4=>omega
  case c5=>simp_all
  intro v' A O E _;have ab:∀q,(Value.slice ao pre.length cp).ownBlock=some q->w.heap.size+1<=q:=λq m=>(y.out.lt q m).1;have N:A.heap[w.heap.size]?=some (fV #[.slice ao pre.length cp] 25):=by
   rw[E.block _ (by have:=HB.out;simp;omega) (λe=>by grind)];exact(Q _).at P.out (by simp)
  have c3:=fw N 0;have f3:=fA N 0;dsimp at c3;have⟨ao',cp',hv'⟩:=fS O;subst hv';have a8:A.ownsRow (w.heap.size+1) 57 3 (.slice ao' (pre.length+1) cp') (pre++[x]).length (wG (pre++[x])):=by
   have e2:wG (pre++[x])=wG pre++[fK x.k,fR x.s,fR x.t]:=by rw[Lh];rfl
   rw[e2,lY];exact O
  have a9:Kept [] w A:=(C.alloc _).grown E (λq m=> .inr (by grind));have aa:KW W A:=by
   intro q cc tt m ht;have Z:=(Q (fV #[fK x.k,fR x.s,fR x.t] 57)).at m (by simp);rw[E.block q (iB Z) ?_]
   .exact Z
   .intro e;rcases y.out.2 with⟨e2,_⟩|⟨g,U,H,e2,_,hc,_⟩
    .rw[e2]at e;cases e
    .rw[e2]at e;have e3:=jr e
     grind
  have a7:KeepsOthers W A:=(a0 _).trans (KeepsOthers.of_grownBy E (λq o m a5=>by
   rcases(y.out.alloc (fV #[fK x.k,fR x.s,fR x.t] 57)).2 with⟨e2,_⟩|⟨g,U,H,e2,_,hc,_⟩
   .rw[e2]at m;cases m
   .rw[e2]at m;have e3:=jr m;subst e3;rw[a5]at hc;cases hc;rfl))
  have nB:∀q,(Value.slice ao' (pre.length+1) cp').ownBlock=some q->q≠w.heap.size:=λq m=>by have:=(O.lt q m).1;omega
  have HF:Hid (∃v,(A.setCell ⟨w.heap.size,0,none⟩ (.slice ao' (pre.length+1) cp')).heap[w.heap.size]?=some (fV #[v] 25)/\(A.setCell ⟨w.heap.size,0,none⟩ (.slice ao' (pre.length+1) cp')).ownsRow (w.heap.size+1) 57 3 v (pre++[x]).length (wG (pre++[x]))/\Kept [] w (A.setCell ⟨w.heap.size,0,none⟩ (.slice ao' (pre.length+1) cp'))):=
   fx ⟨_,fI N 0 _,((Kept.refl [w.heap.size] A).setCell (.inl (by simp)) _).ownsRow a8 (λq m=>by simpa using nB q m),a9.setCell (.inr (gr _)) _⟩
  have HG:Hid (KW W (A.setCell ⟨w.heap.size,0,none⟩ (.slice ao' (pre.length+1) cp'))):=fx (by
   intro q cc tt m ht;refine((Kept.refl [w.heap.size] A).setCell (.inl (by simp)) _).at (aa q cc tt m ht) ?_;intro hm;have e:=List.mem_singleton.1 hm;subst e;rw[P.out]at m
   grind)
  have HH:=fx (a7.trans (Oy A ⟨w.heap.size,0,none⟩ (.slice ao' (pre.length+1) cp')));gi_wp2;exact⟨by simpa using HF.out,HG.out,HH.out⟩
 case done=>
  rintro D W ac ⟨v,a,t,C⟩ HD;have⟨ao,cp,hv⟩:=fS t;subst hv;have T:=fw a 0;dsimp at T;have y:=fx t;clear a t;gi_wp2;refine⟨by simp,.inl ⟨_,_,rfl,ou HD,?_⟩⟩;refine⟨_,results_tmp rfl _ _ _,_,rfl,?_,QZ C (by omega) _⟩;have ho:=UR y.out HD rfl (.deferred none);refine⟨ho.1,?_⟩;rcases ho.2 with e|⟨g,a3,H,e,hg,r⟩
  .exact .inl e
  .exact .inr ⟨g,a3,H,e,by omega,r⟩
attribute [local go_sem] Oper.semAt_some
def errorType.kept {S : List Nat} (h:errorType w) (m:Kept S w w') (o:0∉S):errorType w':=by
 have g:0 < w.heap.size:=by
  rcases mq 0 w.heap.size with a|a
  .exact a
  .unfold errorType at h;simp[World.cell?,LO a]at h
 exact(m.cell (p:=⟨0,0,none⟩) g o).trans h
def MV (s:fN) (d f l c p:Nat):Prop:=∀(g:gh) (a:Nat) (w:fO),w.ownsRow a 5 1 g s.size (kD s)->ya w->K5 w->
  Calls prog 38 #[g,.agg #[fK d,fK f,fK l]] w λe w'=>Iy w e w' (.stop c p)
def aeT (w:fO) (c p:Nat) (v3 v4:gh) (wc:fO):Prop:=∃a k,v3=fW a/\v4=fW k/\w.heap.size<=a/\wc.heap[a]?=some (fV #[iQ,.pointer none] 74)/\kh wc k c p/\Kept [] w wc
theorem JC {m : fO} {e : Ending} (h:Iy W e m (.stop c p)) (u:Kept [] w W):∃k,e=gO (.tuple #[.agg #[iQ,.pointer none],fW k])/\aeT w c p (fW m.heap.size) (fW k) (m.alloc (fV #[iQ,.pointer none] 74))/\
  (∀a,w.heap.size<=a->W.heap[a]?=some (fV #[iQ,.pointer none] 74)->m.heap[a]?=some (fV #[iQ,.pointer none] 74)/\aeT w c p (fW a) (fW k) ((m.setCell ⟨a,0,none⟩ (iQ)).setCell ⟨a,1,none⟩ (.pointer none))):=by
 obtain⟨k,rfl,q,g⟩:=h;have A:w.heap.size<=W.heap.size:=u.size;have x:=(Kept.refl [] m).alloc (fV #[iQ,.pointer none] 74);refine⟨k,rfl,⟨_,k,rfl,rfl,jC A g.size,fB m _,x.at q (by simp),(u.trans g).trans x⟩,?_⟩;intro a o y;have t:=g.at y (by simp);have C:Kept [a] m ((m.setCell ⟨a,0,none⟩ (iQ)).setCell ⟨a,1,none⟩ (.pointer none)):=((Kept.refl _ _).setCell (.inl (by simp)) _).setCell (.inl (by simp)) _;refine⟨t,a,k,rfl,rfl,o,fI (fI t 0 _) 1 _,C.at q (λz=>?_),((u.trans g).setCell (.inr o) _).setCell (.inr o) _⟩;have e:=List.mem_singleton.1 z;subst e;unfold kh at q
 grind
def zx (d f l:Int) (p k:Nat):jB:=#[fK d,fK f,fK l,iQ,.bool true,fK p,.iface 78 (fW k),iQ,.pointer none]
def DS (w:fO) (bx d f l c p k:Nat) (w':fO):Prop:=w'.heap[bx]?=some (fV (zx d f l p k) 76)/\kh w' k c p/\Kept [bx] w w'
def Sx (bx d f l:Nat) (O:gh) (s:fN) (base:Nat) (w:fO) (o:w.heap[bx]?=some (fV (tC ((d:Int),(f:Int),(l:Int)) O) 76)) (K:w.ownsRow base 5 1 O s.size (kD s)) (U:ya w) (A:K5 w) (Z:MV s d f l c p):
  Calls prog 28 #[fW bx] w λe w'=>∃k,e=gO (.iface 78 (fW k))/\DS w bx d f l c p k w':=by
 have⟨ao,cp,htv⟩:=fS K;subst htv;have Y:=iB o;have c0:w.cell? ⟨bx,0,none⟩=some (fK d):=by rw[fw o];rfl
 have c1:w.cell? ⟨bx,1,none⟩=some (fK f):=by rw[fw o];rfl
 have c2:w.cell? ⟨bx,2,none⟩=some (fK l):=by rw[fw o];rfl
 have c3:w.cell? ⟨bx,3,none⟩=some (.slice ao s.size cp):=by rw[fw o];rfl
 have Q:=Az bx ((d:Int),(f:Int),(l:Int)) _ w o;have D:=(λW (m:Kept [] w W)=>Z (.slice ao s.size cp) base W (m.ownsRow K (λ_ _=>by simp)) (U.fr (bm:=0) (.gv m)) (A.kept m));have T:=o;have S:=fB w.drew (fV #[iQ,.pointer none] 74);go_enter func28,ntmps28
 go_wp21
 refine Q.mono ?_;rintro e h ⟨rfl,rfl⟩
 go_wp21
 go_cut [3,4]from 8 to 19 (λv3 v4 wc=>aeT h c p v3 v4 wc)
 case first=>
  go_region_with (go_at_call 38;first
   |(refine(D _ ((Kept.refl [] h).drew)).mono ?_;intro e C u;obtain⟨k,rfl,F,_⟩:=JC u ((Kept.refl [] h).drew);have y:=fx F;clear F u)
   |(refine(D _ (((Kept.refl [] h).drew).alloc _)).mono ?_;intro e C u;obtain⟨k,rfl,_,G⟩:=JC u (((Kept.refl [] h).drew).alloc _);have⟨h3,h4⟩:=G h.heap.size (gr _) S;have q0:C.cell? ⟨h.heap.size,0,none⟩=some (iQ):=(by rw[fw h3];rfl);have q1:C.cell? ⟨h.heap.size,1,none⟩=some (.pointer none):=(by rw[fw h3];rfl);have z0:=fA h3 0;have z1:=fA h3 1;have y:=fx h4;clear G h3 h4 u))
  all_goals (try (go_wp21))
  all_goals (go_meet;exact y)
 case rest=>
  obtain⟨z,k,rfl,rfl,V,A,g,m⟩:=hcut;have a:=m.at T (by simp);have e3:wc.cell? ⟨bx,3,none⟩=some (.slice ao s.size cp):=by rw[fw a];rfl
  have e4:wc.cell? ⟨bx,4,none⟩=some (.bool false):=by rw[fw a];rfl
  have e5:wc.cell? ⟨bx,5,none⟩=some (fK 0):=by rw[fw a];rfl
  have e7:wc.cell? ⟨bx,7,none⟩=some (iQ):=by rw[fw a];rfl
  have e8:wc.cell? ⟨bx,8,none⟩=some (.pointer none):=by rw[fw a];rfl
  have t0:wc.cell? ⟨z,0,none⟩=some (iQ):=by rw[fw A];rfl
  have t1:wc.cell? ⟨z,1,none⟩=some (.pointer none):=by rw[fw A];rfl
  have f4:=fA a 4;have f5:=fA a 5;have f7:=fA a 7;have f8:=fA a 8;have a0:z≠bx:=by omega
  have J:bx≠z:=by omega
  have q:k≠bx:=by
   rintro rfl;unfold kh at g;rw[a]at g;simp at g
  have I:=iB a;have E:=And.intro a (And.intro g m)
  go_wp21
  go_cut []from 20 to 34 (λP=>P.heap[bx]?=some (fV #[fK d,fK f,fK l,.slice ao s.size cp,.bool true,fK s.size,.nilIface,iQ,.pointer none] 76)/\Kept [bx] wc P)
  case first=>
   go_region
   all_goals (try (go_wp21))
   all_goals (go_meet;exact⟨fI (fI (fI (fI E.1 _ _) _ _) _ _) _ _,(((((Kept.refl [bx] wc).setCell (.inl (by simp)) _).setCell (.inl (by simp)) _).setCell (.inl (by simp)) _).setCell (.inl (by simp)) _).drew⟩)
  case rest=>
   have⟨hx3,hk3⟩:=hcut;have⟨a,g,m⟩:=E;have x:kh wc k c p:=hk3.at g (by simpa using q);have g3:wc.cell? ⟨bx,3,none⟩=some (.slice ao s.size cp):=by rw[fw hx3];rfl
   have g5:wc.cell? ⟨bx,5,none⟩=some (fK s.size):=by rw[fw hx3];rfl
   have g6:wc.cell? ⟨bx,6,none⟩=some .nilIface:=by rw[fw hx3];rfl
   have s1:wc.cell? ⟨k,1,none⟩=some (fK p):=by rw[fw x];rfl
   have y3:=fA hx3 3;have y5:=fA hx3 5;have y6:=fA hx3 6;have H:=iB hx3;have t:=q;have X:bx≠k:=λe=>t e.symm;have N:=hk3.trans ((((Kept.refl [bx] wc).setCell (p:=⟨bx,5,none⟩) (.inl (by simp)) (fK p)).setCell (p:=⟨bx,6,none⟩) (.inl (by simp)) (.iface 78 (fW k))).setCell (p:=⟨bx,3,none⟩) (.inl (by simp)) (iQ));have y:Hid (DS h bx d f l c p k (((wc.setCell ⟨bx,5,none⟩ (fK p)).setCell ⟨bx,6,none⟩ (.iface 78 (fW k))).setCell ⟨bx,3,none⟩ (iQ))):=fx ⟨fI (fI (fI hx3 5 _) 6 _) 3 _,N.at g (by simpa using t),(m.mono (by simp)).trans N⟩;go_wp2;go_ret;exact⟨k,rfl,y⟩
def Rm (bx d f l:Nat) (h:gh) (s:fN) (base:Nat) (w:fO) (D:w.heap[bx]?=some (fV (tC ((d:Int),(f:Int),(l:Int)) h) 76)) (A:w.ownsRow base 5 1 h s.size (kD s)) (t:ya w) (y:K5 w) (z:MV s d f l c p) (x:errorType w) (u:0≠bx):
  Calls prog 16 #[fW bx] w λe w'=>∃k,e=gO (.tuple #[fK c,fK p])/\DS w bx d f l c p k w':=by
 have C:=Sx bx d f l h s base w D A t y z;have o:=x;go_enter func16,ntmps16
 go_wp21
 refine C.mono ?_;rintro e E ⟨k,rfl,a⟩;have m:=LP k (p:Int) (c:Int) E a.2.1 (o.kept a.2.2 (by simpa using u))
 go_wp21
 refine m.mono ?_;rintro e F ⟨rfl,g⟩;have q:Hid (DS w bx d f l c p k F):=by
  have⟨h1,h2,h3⟩:=a;exact fx ⟨g.at h1 (by simp),g.at h2 (by simp),h3.trans (g.mono (by simp))⟩
 go_wp2;go_ret2;exact⟨k,rfl,q⟩
def VZ (bx:Nat) (d f l:Int) (p k:Nat) (w:fO) (a:w.heap[bx]?=some (fV (zx d f l p k) 76)):
  Calls prog 29 #[fW bx] w λe w'=>e=gO (.tuple #[fK p,.iface 78 (fW k)])/\Kept [] w w':=by
 have h:w.cell? ⟨bx,4,none⟩=some (.bool true):=by rw[fw a];rfl
 have m:w.cell? ⟨bx,5,none⟩=some (fK p):=by rw[fw a];rfl
 have o:w.cell? ⟨bx,6,none⟩=some (.iface 78 (fW k)):=by rw[fw a];rfl
 have g:=iB a;go_enter func29,ntmps29
 go_wp21
 go_region
 all_goals (try go_wp2)
 all_goals (try go_ret2)
 all_goals exact⟨rfl,(Kept.refl [] w).drew⟩
def Sb (bx:Nat) (d f l:Int) (c p k:Nat) (w:fO) (u:w.heap[bx]?=some (fV (zx d f l p k) 76)) (m:kh w k c p) (t:errorType w):
  Calls prog 17 #[fW bx] w λe w'=>e=gO (.tuple #[fK p,fK c,fK p])/\Kept [] w w':=by
 have C:=VZ bx d f l p k w u;have q:=t;have HS:=m;go_enter func17,ntmps17
 go_wp21
 refine C.mono ?_;rintro e x ⟨rfl,a⟩;have o:=LP k (p:Int) (c:Int) x (a.at HS (by simp)) (q.kept a (by simp))
 go_wp21
 refine o.mono ?_;rintro e y ⟨rfl,h⟩;have g:=a.trans h;go_wp2;go_ret3;exact⟨rfl,g⟩
def Xe (w:fO):Calls prog 33 #[iQ] w λe w'=>e=gO (iQ)/\w'=w:=by
 have a:=λw=>Di (P:=prog) w 26 53 none 0 0 0 0 underlying26;go_enter func33,ntmps33;go_wp2;go_ret;simp
def TE (bx:Nat) (d f l:Int) (p k:Nat) (w:fO) (a:w.heap[bx]?=some (fV (zx d f l p k) 76)):
  Calls prog 20 #[fW bx] w λe w'=>e=gO (iQ)/\Kept [] w w':=by
 have h:w.cell? ⟨bx,7,none⟩=some (iQ):=by rw[fw a];rfl
 have g:=iB a;go_enter func20,ntmps20
 go_wp21
 refine(Xe _).mono ?_;rintro e w' ⟨rfl,rfl⟩;go_wp2;go_ret;exact⟨rfl,Kept.refl _ _⟩
def DB (bx:Nat) (d f l:Int) (p k:Nat) (w:fO) (a:w.heap[bx]?=some (fV (zx d f l p k) 76)):
  Calls prog 31 #[fW bx] w λe w'=>e=gO (.bool false)/\w'=w:=by
 have h:w.cell? ⟨bx,8,none⟩=some (.pointer none):=by rw[fw a];rfl
 have g:=iB a;go_enter func31,ntmps31;go_wp2;go_ret;simp
def WB (bx:Nat) (d f l:Int) (p k:Nat) (w:fO) (a:w.heap[bx]?=some (fV (zx d f l p k) 76)):
  Calls prog 19 #[fW bx] w λe w'=>e=gO (fR js)/\Kept [] w w':=by
 have g:=DB bx d f l p k w a;have h:=iB a;go_enter func19,ntmps19
 go_wp21
 refine g.mono ?_;rintro e m ⟨rfl,rfl⟩;go_wp2;go_ret;exact⟨rfl,Kept.refl _ _⟩
def VX (v:gh) (bx:Nat) (d f l:Int) (p k:Nat) (w:fO) (a:w.heap[bx]?=some (fV (zx d f l p k) 76)):
  Calls prog 39 #[fW bx,v] w λe w'=>e=oS/\w'=w:=by
 have g:=DB bx d f l p k w a;have h:=iB a;go_enter func39,ntmps39
 go_wp21
 refine g.mono ?_;rintro e m ⟨rfl,rfl⟩;go_wp2;go_end0;simp
theorem Kept.putObj {S : List Nat} (h:Kept S w w') {l : Nat} (a:w.heap.size<=l) (o:Obj):Kept S w (w'.putObj l o):=h.grown (wM w' l o) (λk e=>by grind)
def GJ {P:Program} {g:Operand} {ps:Array Tmp} {assign body : Code} {Q:Exit->Act->fO->Prop} {a : Act} {gf : Nat} {rv : gh}
  (G:a.eval g= .func (.func gf) #[rv] #[]) (C:∀u w,(callFunc gf u).run P w= .ok (.enter gf u) w)
  (E:∀y W,Kept [] w W->Calls P gf #[rv,y] W λe w'=>(∃v,e=gO v)/\w'=W)
  (F:∀D W,Kept [] w W->w.heap.size<=D->W.heap[D]?=some (.deferred (some []))->Q .normal {a with defers:={target:= .collected D,args:=#[]}::a.defers} W):
  (Code.rangeFunc g ps assign body).wpIn Fence.wide n P Q a w:=by
 refine Hw ?_;intro fn _;obtain⟨o,m⟩:∃o:Loop,o={state:= .ready,pending:=none,fn,tmps:=a.tmps,params:=ps,assign,body,defers:=w.heap.size}:=⟨_,rfl⟩;obtain⟨t,q⟩:∃t,t=(w.alloc (.deferred (some []))).alloc (.loop o):=⟨_,rfl⟩;have e1:=AH (P:=P) (w:=w) fn a.tmps ps assign body;rw[<-m,<-q]at e1;have A:t.heap[w.heap.size+1]?=some (.loop o):=by
  rw[q];have:=MZ (w.alloc (.deferred (some []))) (.loop o);rwa [xa]at this
 have z:t.heap[w.heap.size]?=some (.deferred (some [])):=by
  rw[q];exact(Below.heap_alloc _ _ _ (by simp)).trans (MZ w _)
 have x:Kept [] w t:=by rw[q];exact((Kept.refl _ _).alloc _).alloc _
 refine⟨w.heap.size+1,[{target:= .collected w.heap.size,args:=#[]}],t,{target:= .fn (.func gf) #[],args:=#[rv,.func (.yield (w.heap.size+1)) #[] #[]]},t,gf,
  #[rv,.func (.yield (w.heap.size+1)) #[] #[]],t,e1,?_,λ_ _=>trivial,?_,λh=>by simp[Fence.wide]at h,?_⟩
 .simp only[resolve,G];simp[go_sem]
 .simp[invoke,go_sem,C]
 .refine callsIn_wide.2 ((E _ _ x).mono ?_);rintro e w' ⟨⟨v,rfl⟩,rfl⟩;refine⟨none,_,by rw[Ft A (by rw[m];simp),m],?_⟩;refine F w.heap.size _ (x.putObj (by omega) _) (gr _) ?_;exact(p5 (by omega)).trans z
def VK (bx:Nat) (d f l:Int) (p k:Nat) (w:fO) (u:w.heap[bx]?=some (fV (zx d f l p k) 76)):
  Calls prog 18 #[fW bx] w λe w'=>e=gO (iQ)/\Kept [] w w':=by
 refine(wV (n:=3)).1 ?_;refine wL func18 rfl trivial ?_ rfl;simp only[ntmps18,xC,sV,vZ,Nat.reduceAdd,Nat.reduceSub,xn,xj,xm,xI,rM,vz];have g:Kept [] w (w.alloc (.cells #[iQ] 25)):=(Kept.refl _ _).alloc _;have t:=fB w (fV #[iQ] 25);have x:=g.at u (by simp);have C:=u
 gi_wp2_with (refine⟨trivial,?_⟩;gi_at_call 30;refine(callsIn_wide.2 (MC _ bx)).mono ?_;rintro e w' ⟨rfl,rfl⟩)
 obtain⟨o,q⟩:∃o,o=w.alloc (fV #[iQ] 25):=⟨_,rfl⟩;rw[<-q]at g t x|-;have F:=(show o.heap.size=w.heap.size+1 by rw[q];simp);refine GJ (gf:=39) (rv:=fW bx) rfl (Go.Proofs.enters_of func39 (by rfl) rfl) ?_ ?_
 .intro y W a;exact(VX y bx d f l p k W (a.at x (by simp))).mono (λe w' h=>⟨⟨_,h.1⟩,h.2⟩)
 .intro D W a E m;have A:=fw (a.at t (by simp)) 0;dsimp at A;have z:=g.trans a;gi_wp2;refine⟨by simp,.inl ⟨_,_,rfl,ou m,?_⟩⟩;exact⟨_,results_tmp rfl _ _ _,rfl,z.putObj (by omega) _⟩
def Xx (w:fO) (B b:Nat) (vv:gh×Bool) (p:gh) (l:List UInt8):Prop:=B<=b/\∃v,w.heap[b]?=some (fV #[p,v,vv.1,.bool vv.2] 100)/\w.ownsRow B 5 1 v l.length (Lib.byteCells l)/\v.ownBlock≠some b
def Wu (w:fO) (B b:Nat) (vv:gh×Bool) (l:List UInt8):Prop:=Xx w B b vv (.pointer none) l\/Xx w B b vv (fW b) l
def Xx.kept {p : gh} {l:List UInt8} (h:Xx w B b vv p l) (a:Kept [] w w'):Xx w' B b vv p l:=by
 have⟨h0,v,h1,h2,h3⟩:=h;exact⟨h0,v,a.at h1 (by simp),a.ownsRow h2 (λ_ _=>by simp),h3⟩
def Wu.kept {l:List UInt8} (h:Wu w B b vv l) (a:Kept [] w w'):Wu w' B b vv l:=h.imp (·.kept a) (·.kept a)
theorem Ss (B b:Nat) (vv:gh×Bool) (l:List UInt8) (w:fO) (h:Wu w B b vv l):
  Calls prog 360 #[fW b] w λe w'=>e=oS/\Xx w' B b vv (fW b) l/\Kept [b] w w':=by
 have⟨j,hj,hj0⟩:=Nq;rcases h with⟨u,v,a,o,t⟩|⟨u,v,a,o,t⟩
 .have z:w.cell? ⟨b,0,none⟩=some (.pointer none):=by rw[fw a];rfl
  have D:=fA a 0;have x:=iB a;have g:w.shape? b=some (100,4):=by simp[World.shape?,a]
  have y:=(Kept.refl [b] w).setCell (p:=⟨b,0,none⟩) (.inl (by simp)) (fW b);have m:Hid (Xx (w.setCell ⟨b,0,none⟩ (fW b)) B b vv (fW b) l):=fx ⟨u,v,fI a 0 _,y.ownsRow o (λq F=>by grind),t⟩;have C:(w.setCell ⟨b,0,none⟩ (fW b)).cell? ⟨b,0,none⟩=some (fW b):=by rw[fw (fI a 0 _)];rfl
  have G:=Lib.run_to_unsafe (P:=prog) w (src:=96) (dst:=102) ⟨b,0,none⟩ underlying96 underlying102 hj hj0 g (show 0 < 4 by decide);have E:=Lib.run_from_unsafe (P:=prog) w (src:=102) (dst:=96) ⟨b,0,none⟩ underlying102 underlying96 hj g PH;have A:=MN (P:=prog) (w.setCell ⟨b,0,none⟩ (fW b)) (tp:=96) ⟨b,0,none⟩ underlying96 hj;go_enter func360,ntmps360;go_wp2;rw[TZ func378 (by rfl) (by rfl) rfl (e:=Extern.AbiNoEscape.same) rfl];rw[Lib.run_noEscape];simp only[Result.andThen];rw[Oper.upon_value];go_wp2;go_end0;exact⟨rfl,m,y⟩
 .have z:w.cell? ⟨b,0,none⟩=some (fW b):=by rw[fw a];rfl
  have x:=iB a;have m:Hid (Xx w B b vv (fW b) l):=fx ⟨u,v,a,o,t⟩;have A:=MN (P:=prog) w (tp:=96) ⟨b,0,none⟩ underlying96 hj;go_enter func360,ntmps360;go_wp2;go_end0;exact⟨rfl,m,Kept.refl _ _⟩
theorem Oc (B b:Nat) (vv:gh×Bool) (l:List UInt8) (s:fN) (w z:fO) (h:Wu w B b vv l) (K:l.length+s.size<=140737488355328) (X:B<=w.heap.size) (E:Kept [] z w) (Y:z.heap.size<=B):
  Calls prog 335 #[fW b,fR s] w λe w'=>e=gO (.tuple #[fK s.size,.nilIface])/\Wu w' B b vv (l++s.data.toList)/\Kept [] z w'/\KB w w':=by
 have⟨i0,hi,hz0,hz1,hz2⟩:=tL YO;have I:=h;have A:=E;go_enter func335,ntmps335
 go_wp21
 refine(Ss B b vv l _ I).mono ?_;rintro e P ⟨rfl,V,t⟩;have⟨hB,v,hbk,hown,hne⟩:=V;have H:KB w P:=by
  rcases I with⟨_,_,G,_⟩|⟨_,_,G,_⟩
  .exact .SE t G
  .exact .SE t G
 have S:=fw hbk 1;dsimp at S;have F:b < P.heap.size:=iB hbk;go_wp2_with (at_builtin;refine Lib.wpList_append_own_string _ rfl _ _ 55 9 rfl B 5 i0 underlying55 underlying9 hi hz0 hz1 hz2 _ _ _ rfl hown s rfl ?c3 ?c4 ?c5 ?_)
 case c3=>unfold maxLen;omega
 case c4=>omega
 case c5=>omega
 intro v' x m a _;have o:x.heap[b]?=some (fV #[fW b,v,vv.1,.bool vv.2] 100):=by
  rw[a.block b F (λe=>hne e.symm)];exact hbk
 have U:=fw o 1;dsimp at U;have f1:x.frozen? ⟨b,1,none⟩=false:=fA o 1;have⟨ao,cap,hv⟩:=fS m;subst hv;have N:∀q,v.ownBlock=some q->B<=q:=λq y=>(hown.lt q y).1;have u:∀q,(Value.slice ao (l.length+s.size) cap).ownBlock=some q->q≠b:=λq y e=>by
  subst e;rcases m.2 with⟨e2,_⟩|⟨g,J,T,e2,_,hc,_⟩
  .grind
  .rw[e2]at y;have Z:=jr y
   grind
 have O:Kept [b] x (x.setCell ⟨b,1,none⟩ (.slice ao (l.length+s.size) cap)):=(Kept.refl [b] x).setCell (.inl (by simp)) _;have Q:Hid (Wu (x.setCell ⟨b,1,none⟩ (.slice ao (l.length+s.size) cap)) B b vv (l++s.data.toList)):=fx (.inr ⟨hB,_,fI o 1 _,by
  rw[KH,lY];exact O.ownsRow m (λq y=>by grind),λe=>u b e rfl⟩)
 have D:Hid (Kept [] z (x.setCell ⟨b,1,none⟩ (.slice ao (l.length+s.size) cap))):=fx ((((A.next t (by simp;omega))).grown a (λq y=> .inr (by grind))).setCell (.inr (by grind)) _);have C:=(H.trans (KB.Yu a hown)).trans (KB.SE O o);go_wp2;go_ret2;exact⟨rfl,Q,D,C⟩
theorem Aq (B b g F:Nat) (vv:gh×Bool) (l:List UInt8) (xs:List fN) (w x:fO) (h:Wu w B b vv l) (hg:w.heap[g]?=some (fV (xs.map Value.string).toArray 9)) (q:l.length+(ko xs).length<=140737488355328) (H:Kept [] x w) (K:x.heap.size<=B) (N:xs.length<=4096):
  Calls prog 419 #[fW b,mW g xs.length F] w λe w'=>e=oS/\Wu w' B b vv (l++ko xs)/\Kept [] x w'/\KB w w':=by
 obtain⟨n,J⟩:∃n,n=xs.length:=⟨_,rfl⟩;rw[<-J]at N|-;have O:=fx J;have HT:=h;have U:=hg;have V:=H;have D:=q;clear J;go_enter func419,ntmps419
 go_wp21
 go_loopw [8] (λv wr=>∃i:Nat,v=fK i/\i<=n/\Wu wr B b vv (l++ko (xs.take i))/\Kept [] x wr/\KB w wr) (λv _=>n - (intOf v).toNat)
 case atStart=>grind[Wu,ko,KB]
 case round=>
  obtain⟨i,rfl,hi,y,Q,o⟩:=hrel
  by_cases I:i < n
  .have P:i < xs.length:=by rw[<-O.out];exact I
   have X:=o g _ _ U (by decide);have hc:wr.cell? ⟨g,i,none⟩=some (fR xs[i]):=by rw[fw X];simp[P]
   have a:ko (xs.take (i+1))=ko (xs.take i)++xs[i].data.toList:=by
    rw[IW,pY P,Ed];simp[ko]
   have m:(l++ko (xs.take i)).length+xs[i].size<=140737488355328:=by
    have e:=ri List.length (ri ko (IU (i+1) xs));rw[Ed,a]at e;have:=D;have es:xs[i].data.toList.length=xs[i].size:=zk;simp only[lY]at e|-;omega
   have Y:B<=b/\b < wr.heap.size:=by rcases y with⟨t,_,S,_⟩|⟨t,_,S,_⟩<;>exact⟨t,iB S⟩
   have C:=Oc B b vv _ xs[i] wr x y m (by omega) Q K;rw[vw,<-a]at C;have T:=fx o;generalize xs[i]=u at *;clear o
   go_wp21
   refine C.mono ?_;rintro e W2 ⟨rfl,E,A,G⟩;have z:=T.trans G;go_wp2;go_roundw
   case rel=>grind
   case measure=>simp[intOf];omega
  .have Z:xs.take i=xs:=Bd (by rw[<-O.out];omega);rw[Z]at y;have E:=y;have A:=Q;have z:=o;clear o;go_wp2;go_end0
   grind
theorem LV (a g:List UInt8) (c:Nat) (m:1<=c) (h:g.length<=c*a.length):∀(k:Nat) (s:List UInt8),(Lib.replaceK a g k s).length<=c*s.length
 |0,s=>by simp only[Lib.replaceK];exact xN _ m
 |k+1,s=>by
  rw[Lib.replaceK];split
  .exact xN _ m
  .rename_i u;have y:=Lib.index_ge s a;have q:0<=Lib.index s a:=by
    have:¬Lib.index s a= -1:=λe=>u (by grind);omega
   have z:=Lib.index_room s a q;have A:(Lib.index s a).toNat+a.length<=s.length:=by omega
   have o:=LV a g c m h k (s.drop ((Lib.index s a).toNat+a.length));generalize (Lib.index s a).toNat=i at *;simp only[lY,List.length_take,List.length_drop]at o|-;obtain⟨d,t⟩:∃d,s.length=i+a.length+d:=⟨s.length - (i+a.length),by omega⟩;rw[t]at o|-;have e1:i+a.length+d - (i+a.length)=d:=by omega
   rw[e1]at o;have e2:c*(i+a.length+d)=c*i+c*a.length+c*d:=by rw[Nat.mul_add,Nat.mul_add]
   have x:i<=c*i:=xN _ m;omega
theorem zH (s g a:fN) (c:Nat) (m:1<=c) (h:a.size<=c*g.size):(M6 s g a).size<=c*s.size:=by
 have e1:s.size=s.data.toList.length:=MQ s;have e2:(M6 s g a).size=(Lib.replaceAll s.data.toList g.data.toList a.data.toList).length:=by
  rw[MQ];simp[M6]
 rw[e1,e2];unfold Lib.replaceAll Lib.replace;split
 .exact xN _ m
 .exact LV _ _ c m (by simp_all) _ _
def Ee (s:fN):(Ae s).size<=15*s.size:=by
 have a:=zH s tH jM 5 (by decide) (by decide);have g:=zH (M6 s tH jM) sq mH 3 (by decide) (by decide);unfold Ae;omega
def Qd (s:fN):(GS s).size<=240*s.size:=by
 have a:=Ee s;have g:=zH (Ae s) pT kV 4 (by decide) (by decide);have h:=zH (M6 (Ae s) pT kV) ir qT 4 (by decide) (by decide);unfold GS;omega
def DW (s a g:fN) (w:fO) (t:K5 w) (x:s.size<=2000000000) (h:1<=a.size) (u:g.size<=16):
  Calls prog 251 #[fR s,fR a,fR g] w λe w'=>e=gO (fR (M6 s a g))/\Kept [] w w':=by
 have⟨⟨m,hm⟩,_⟩:=t;have q:=Lib.countB_le a h s.size s (gr _);refine(Tryz.strings_ReplaceAll s a g m w (by omega) hm h ?_).mono ?_
 .have:=Nat.mul_le_mul q u;omega
 .rintro e w' ⟨rfl,o⟩;exact⟨rfl,I1 o⟩
def LQ (s:fN) (w:fO) (o:K5 w) (z:s.size<=1048576):
  Calls prog 420 #[fR s] w λe w'=>e=gO (fR (Ae s))/\Kept [] w w':=by
 have q:=DW s tH jM w o (by omega) (by decide) (by decide);have A:=zH s tH jM 5 (by decide) (by decide);have m:=(λw' (x:Kept [] w w')=>DW (M6 s tH jM) sq mH w' (o.kept x) (by omega) (by decide) (by decide));rw[show M6 (M6 s tH jM) sq mH=Ae s from rfl]at m;generalize M6 s tH jM=u at *;generalize Ae s=v at *;go_enter func420,ntmps420
 go_wp21
 refine q.mono ?_;rintro e y ⟨rfl,a⟩;have t:=m y a
 go_wp21
 refine t.mono ?_;rintro e C ⟨rfl,h⟩;have g:=a.trans h;go_wp2;go_ret;exact⟨rfl,g⟩
theorem Wu.cells {l:List UInt8} (h:Wu w B b vv l):∃p v,w.heap[b]?=some (fV #[p,v,vv.1,.bool vv.2] 100)/\B<=b:=by
 rcases h with⟨a,v,g,_⟩|⟨a,v,g,_⟩
 all_goals grind
theorem aey (B b:Nat) (vv:gh×Bool) (l:List UInt8) (s:fN) (w q:fO) (h:Wu w B b vv l) (u:K5 q) (J:vv.2=false) (N:s.size<=1048576) (C:l.length+240*s.size<=140737488355328) (a:Kept [] q w) (y:q.heap.size<=B):
  Calls prog 448 #[fW b,fR s] w λe w'=>e=oS/\Wu w' B b vv (l++(GS s).data.toList)/\Kept [] q w':=by
 have⟨p,v,hb,hBb⟩:=h.cells;have U:w.cell? ⟨b,3,none⟩=some (.bool false):=by rw[fw hb,<-J];rfl
 have K:=iB hb;have z1:=Ee s;have z3:=Qd s;have z2:=zH (Ae s) pT kV 4 (by decide) (by decide);have D:=LQ s w (u.kept a) N;have E:=(λw' (m:Kept [] w w')=>DW (Ae s) pT kV w' ((u.kept a).kept m) (by omega) (by decide) (by decide));have z:=(λw' (m:Kept [] w w')=>DW (M6 (Ae s) pT kV) ir qT w' ((u.kept a).kept m) (by omega) (by decide) (by decide));rw[show M6 (M6 (Ae s) pT kV) ir qT=GS s from rfl]at z;have A:=(λw' (m:Kept [] w w')=>Aq B b w'.heap.size 1 vv l [GS s] (w'.alloc (fV #[fR (GS s)] 9)) q (h.kept (m.alloc _)) (fB w' _) (by simp only[ko,M7,wU,Gt];rw[show(GS s).data.toList.length=(GS s).size from zk];omega) ((a.trans m).alloc _) y (by simp));have I:ko [GS s]=(GS s).data.toList:=by simp[ko]
 rw[I]at A;generalize M6 (Ae s) pT kV=X at *;generalize Ae s=V at *;generalize GS s=Y at *;go_enter func448,ntmps448
 go_wp21
 refine D.mono ?_;rintro e O ⟨rfl,g⟩;have F:=E O g
 go_wp21
 refine F.mono ?_;rintro e P ⟨rfl,o⟩;have G:=z P (g.trans o);have t:=g.trans o
 go_wp21
 refine G.mono ?_;rintro e Q ⟨rfl,x⟩;have H:=A Q (t.trans x)
 go_wp21
 refine H.mono ?_;rintro e Z ⟨rfl,S,T,_⟩;go_wp2;go_end0
 grind
theorem aeA (B b:Nat) (vv:gh×Bool) (l:List UInt8) (s:fN) (w a:fO) (h:Wu w B b vv l) (u:vv.2=true) (q:l.length+s.size<=140737488355328) (g:Kept [] a w) (m:a.heap.size<=B):
  Calls prog 448 #[fW b,fR s] w λe w'=>e=oS/\Wu w' B b vv (l++s.data.toList)/\Kept [] a w':=by
 have⟨p,v,hb,hBb⟩:=h.cells;have A:w.cell? ⟨b,3,none⟩=some (.bool true):=by rw[fw hb,<-u];rfl
 have x:=iB hb;have o:=Aq B b w.heap.size 1 vv l [s] (w.alloc (fV #[fR s] 9)) a (h.kept ((Kept.refl [] w).alloc _)) (fB w _) (by simp only[ko,M7,wU,Gt];simp_all) (g.alloc _) m (by simp);have t:ko [s]=s.data.toList:=by simp[ko]
 rw[t]at o;go_enter func448,ntmps448
 go_wp21
 refine o.mono ?_;rintro e C ⟨rfl,y,z,_⟩;go_wp2;refine nK (Gn rfl _ _ _) rfl ?_
 grind
theorem Wu.set {l:List UInt8} (h:Wu w B b vv l) (a:Bool):Wu (w.setCell ⟨b,3,none⟩ (.bool a)) B b (vv.1,a) l:=by
 have u:Kept [b] w (w.setCell ⟨b,3,none⟩ (.bool a)):=(Kept.refl [b] w).setCell (.inl (by simp)) _;have go:∀p,Xx w B b vv p l->Xx (w.setCell ⟨b,3,none⟩ (.bool a)) B b (vv.1,a) p l:=by
  rintro p ⟨g,v,m,o,t⟩;exact⟨g,v,fI m 3 _,u.ownsRow o (λq x=>by grind),t⟩
 grind[Wu]
def Ma (x y s:fN):(ko [x,s,y]).length=x.size+s.size+y.size:=by
 simp only[ko,M7,wU,Gt,lY];rw[show s.data.toList.length=s.size from zk,show x.data.toList.length=x.size from zk,show y.data.toList.length=y.size from zk];omega
theorem ab3 (B b:Nat) (vv:gh×Bool) (l:List UInt8) (s:fN) (w g:fO) (h:Wu w B b vv l) (z:l.length+s.size+3<=140737488355328) (t:Kept [] g w) (u:g.heap.size<=B):
  Calls prog 418 #[fW b,fR s] w λe w'=>e=oS/\Wu w' B b (vv.1,false) (l++ko [pH,s,ir])/\Kept [] g w':=by
 have⟨p,v,hb,hBb⟩:=h.cells;have A:=fw hb 3;have G:=fA hb 3;dsimp at A;have D:=iB hb;have y:=h.set false;have a:Kept [] g (w.setCell ⟨b,3,none⟩ (.bool false)):=t.setCell (.inr (by grind)) _;have C:=Ma pH ir s;have e1:pH.size=2:=rfl;have e2:ir.size=1:=rfl;rw[e1,e2]at C;obtain⟨W,m⟩:∃W,W=w.setCell ⟨b,3,none⟩ (.bool false):=⟨_,rfl⟩;rw[<-m]at y a;have x:=Aq B b W.heap.size 3 _ l [pH,s,ir] (W.alloc (fV #[fR pH,fR s,fR ir] 9)) g (y.kept ((Kept.refl [] W).alloc _)) (fB W _) (by omega) (a.alloc _) u (by simp);have q:W.heap.size=w.heap.size:=by rw[m];simp
 rw[q]at x;have o:=fx m.symm;generalize ko [pH,s,ir]=J at *;clear m;go_enter func418,ntmps418
 go_wp21
 rw[o.out];refine x.mono ?_;rintro e H ⟨rfl,E,F,_⟩;go_wp2;go_end0
 grind
theorem WR (B b:Nat) (vv:gh×Bool) (l:List UInt8) (s:fN) (w a:fO) (h:Wu w B b vv l) (o:l.length+s.size+7<=140737488355328) (g:Kept [] a w) (m:a.heap.size<=B):
  Calls prog 416 #[fW b,fR s] w λe w'=>e=oS/\Wu w' B b vv (l++ko [mw,s,nT])/\Kept [] a w':=by
 have t:=Ma mw nT s;have e1:mw.size=4:=rfl;have e2:nT.size=3:=rfl;rw[e1,e2]at t;have q:=Aq B b w.heap.size 3 _ l [mw,s,nT] (w.alloc (fV #[fR mw,fR s,fR nT] 9)) a (h.kept ((Kept.refl [] w).alloc _)) (fB w _) (by omega) (g.alloc _) m (by simp);generalize ko [mw,s,nT]=J at *;go_enter func416,ntmps416
 go_wp21
 refine q.mono ?_;rintro e y ⟨rfl,u,x,_⟩;go_wp2;go_end0
 grind
theorem WK (B b:Nat) (vv:gh×Bool) (l:List UInt8) (s:fN) (w a:fO) (h:Wu w B b vv l) (o:l.length+s.size+11<=140737488355328) (g:Kept [] a w) (m:a.heap.size<=B):
  Calls prog 447 #[fW b,fR s] w λe w'=>e=oS/\Wu w' B b vv (l++ko [ik,s,ir])/\Kept [] a w':=by
 have t:=Ma ik ir s;have e1:ik.size=10:=rfl;have e2:ir.size=1:=rfl;rw[e1,e2]at t;have q:=Aq B b w.heap.size 3 _ l [ik,s,ir] (w.alloc (fV #[fR ik,fR s,fR ir] 9)) a (h.kept ((Kept.refl [] w).alloc _)) (fB w _) (by omega) (g.alloc _) m (by simp);generalize ko [ik,s,ir]=J at *;go_enter func447,ntmps447
 go_wp21
 refine q.mono ?_;rintro e y ⟨rfl,u,x,_⟩;go_wp2;go_end0
 grind
def Z8 (s:fN):(Iu s).size<=90*s.size:=by
 have a:=Ee s;have g:=zH (Ae s) oU oy 6 (by decide) (by decide);unfold Iu;omega
def QD (L:kZ):List UInt8:=L.flatMap λa=>ko [⟨#[32]⟩,a.1,yn,Iu a.2,oU]
def aea (s:fN) (fX:kZ):List UInt8:=ko [pT,s]++QD fX++ko [ir]
theorem abl (B b:Nat) (vv:gh×Bool) (vd:fN->Bool) (l:List UInt8) (s:fN) (av:gh) (fX:kZ) (w F:fO) (h:Wu w B b vv l) (hv:aeK F vv.1 vd) (hg:K5 F) (hs:s.size<=5000) (hA:AN w av fX) (aI:fX.length<=16) (ha:∀a∈fX,a.1.size<=5000/\a.2.size<=66000) (aE:l.length+6000+16*6000000<=140737488355328) (af:Kept [] F w) (a3:F.heap.size<=B):
  Calls prog 417 #[.pointer (some ⟨b,0,none⟩),.string s,av] w λe w'=>e= .returned (.bool (!vd s))/\(∃x,Wu w' B b (vv.1,s.toList==[115,116,121,108,101]) x/\x.length<=l.length+6000+fX.length*6000000/\x≠[]/\x=l++aea s fX)/\Kept [] F w':=by
 have⟨vx,fl⟩:=vv;have⟨kv,lb,hvx,hcf,HC⟩:=hv;have ah:vx= .func (.func kv) #[] lb:=hvx;subst ah;clear hvx;have⟨ao,cp,hav⟩:=fS hA;subst hav;have ez:(ko [pT,s]).length=s.size+1:=by
  simp only[ko,M7,wU,Gt,lY];rw[show s.data.toList.length=s.size from zk];simp;omega
 have ac:(ko [ir]).length=1:=rfl;have C1:=Aq B b w.heap.size 2 _ l [pT,s] (w.alloc (.cells #[.string pT,.string s] 9 (0,0))) F (h.kept ((Kept.refl [] w).alloc _)) (fB w _) (by omega) (af.alloc _) a3 (by simp);have C2:=(λw' x (hw:Wu w' B b (.func (.func kv) #[] lb,fl) x) (hl:x.length+1<=140737488355328) (hk:Kept [] F w')=>Aq B b w'.heap.size 1 _ _ [ir] (w'.alloc (.cells #[.string ir] 9 (0,0))) F (hw.kept ((Kept.refl [] w').alloc _)) (fB w' _) (by omega) (hk.alloc _) a3 (by simp));have a5:=hA.alloc (.cells #[.string pT,.string s] 9 (0,0));have EZ:=fx ez;have au:ko [pT,s]≠[]:=by simp[ko]
 have aj:=fx ac;have ak:=ha;have al:=hg;clear ha hg;unfold aea;generalize ko [pT,s]=J1 at *;generalize ko [ir]=J2 at *;clear h af ez ac hA;go_enter func417,ntmps417
 go_wp21
 refine C1.mono ?_;rintro e w1 ⟨rfl,H1,K1,ai⟩;have a6:=ai.row a5 (by decide);clear ai a5
 go_wp21
 go_loopw [15] (λv wr=>∃(o:Nat) (x:List UInt8),v= .int .i64 o/\o<=fX.length/\Wu wr B b (.func (.func kv) #[] lb,fl) x/\x.length<=l.length+5001+o*6000000/\x≠[]/\x=l++(J1++QD (fX.take o))/\Kept [] F wr/\AN wr (.slice ao fX.length cp) fX) (λv _=>fX.length - (intOf v).toNat)
 case atStart=>exact⟨0,_,rfl,im _,H1,by rw[lY,EZ.out];omega,λe=>au (List.append_eq_nil_iff.1 e).2,by simp[QD],K1,a6⟩
 case round=>
  obtain⟨o,x,rfl,aJ,hW,aC,H,z,P,D⟩:=hrel
  by_cases E:o < fX.length
  .have aK:fX.length≠0:=by omega
   obtain⟨gA,aA⟩:∃gA,ao=some ⟨gA,0,none⟩:=by
    rcases D.2 with⟨e,h0⟩|⟨q,aD,aH,e,_⟩
    all_goals simp_all
   subst aA;have⟨f0,f1⟩:=SG fX o E;have q0:wr.cell? ⟨gA,o*2,none⟩=some (.string fX[o].1):=by rw[D.cellAt (o*2) (by omega)];exact f0
   have q1:wr.cell? ⟨gA,o*2+1,none⟩=some (.string fX[o].2):=by rw[D.cellAt (o*2+1) (by omega)];exact f1
   have⟨z1,z2⟩:=ak fX[o] (tM E);have K:QD (fX.take (o+1))=QD (fX.take o)++ko [⟨#[32]⟩,fX[o].1,yn,Iu fX[o].2,oU]:=by
    rw[IW,pY E];simp only[QD,Option.toList,yL,M7,wU,Gt]
   have ab:=fx K;have aq:=fx z;clear K z;generalize fX[o].1=nm at *;generalize fX[o].2=A at *;clear f0 f1;have H2:=fx hW;have K2:=fx P;have a9:=fx H;have A2:=fx D;clear hW P D H
   go_wp21
   obtain⟨ba,a1⟩:∃ba,ba=wr.heap.size:=⟨_,rfl⟩;obtain⟨C,O⟩:∃C,C=wr.alloc (.cells #[.string nm,.string A] 299 (0,0)):=⟨_,rfl⟩;have a7:Hid (C.heap[ba]?=some (.cells #[.string nm,.string A] 299 (0,0))):=by rw[O,a1];exact fx (fB wr _)
   have k0:Kept [] wr C:=by rw[O];exact(Kept.refl [] wr).alloc _
   have a8:=(al.kept K2).kept k0;obtain⟨G,hG⟩:∃G:fO->Prop,G=λW=>∃l2,Wu W B b (.func (.func kv) #[] lb,fl) l2/\l2.length<=l.length+5001+(o+1)*6000000/\l2≠[]/\l2=l++(J1++QD (fX.take (o+1)))/\Kept [] F W/\AN W (.slice (some ⟨gA,0,none⟩) fX.length cp) fX:=⟨_,rfl⟩;have ax:Hid (∀W g',Kept [] C W->W.heap[g']?=some (.cells #[.string ⟨#[32]⟩,.string nm,.string yn,.string (Iu A),.string oU] 9 (0,0))->Calls prog 419 #[.pointer (some ⟨b,0,none⟩),.slice (some ⟨g',0,none⟩) 5 5] W λe W2=>e= .returned (.tuple #[])/\G W2):=fx (by
    intro W g' q aB;have zj:(ko [⟨#[32]⟩,nm,yn,Iu A,oU]).length<=5946004:=by
     have:=Z8 A;simp only[ko,M7,wU,Gt,lY];rw[show nm.data.toList.length=nm.size from zk,show(Iu A).data.toList.length=(Iu A).size from zk];simp;omega
    refine(Aq B b g' 5 _ x [⟨#[32]⟩,nm,yn,Iu A,oU] W F (H2.kept (k0.trans q)) aB (by omega) (K2.trans (k0.trans q)) a3 (by simp)).mono ?_;rintro e W2 ⟨rfl,r1,r2,r3⟩;rw[hG];exact⟨rfl,_,r1,by rw[lY];omega,λe=>a9 (List.append_eq_nil_iff.1 e).1,(by rw[ab.out,aq.out];simp),r2,r3.row ((k0.trans q).ownsRow A2 (λ_ _=>by simp)) (by decide)⟩)
   have am:=fx hG;have aw:=fx O.symm;clear hG O k0 H2 A2 a9 a6 H1 K1 C2 HC q0 q1 aC;rw[<-a1,aw.out];clear a1;refine uN (by rfl) ?_
   try (change wpAny _ _ _ _ _ _ _ (World.drew _))
   refine yi (I:=λu a W=>∃b0 b1 b2 b3 b4 b5 b6 b7 y Q S T U V X Y Z a0,u=#[b0,b1,b2,b3,b4,b5,b6,b7,y]/\a=⟨#[.pointer (some ⟨b,0,none⟩),.string s,.slice (some ⟨gA,0,none⟩) fX.length cp,undef,undef,undef,.bool false,undef,.pointer (some ⟨ba,0,none⟩),.pointer (some ⟨b,0,none⟩),.string s,.slice (some ⟨w.heap.size,0,none⟩) 2 2,.tuple #[],.slice (some ⟨gA,0,none⟩) fX.length cp,.int .i64 (fX.length:Int),.int .i64 (o:Int),.bool true,.pointer (some ⟨gA,o*2,none⟩),.agg #[.string nm,.string A],Q,S,T,U,V,X,Y,Z,a0,u28,undef,undef,undef,undef,undef,undef,undef,undef,undef,undef,undef,undef,undef,undef,undef],[]⟩/\dV ba b nm A G C b0 b1 b2 b3 b4 b5 b6 b7 y Q S T U V X Y Z a0 W) ?_ ?_ _ _ _ _ ?_ ?_
   .rintro u a W k ⟨b0,b1,b2,b3,b4,b5,b6,b7,y,Q,S,T,U,V,X,Y,Z,a0,rfl,rfl,g⟩ hi;simp only[Region.ready,IA,DI]at hi;have⟨E,hc⟩:=hi;have E:k < 9:=E;obtain rfl|rfl|rfl|rfl|rfl|rfl|rfl|rfl|rfl:k=0\/k=1\/k=2\/k=3\/k=4\/k=5\/k=6\/k=7\/k=8:=by omega
    all_goals simp[Region.binds]at hc
    .refine jE rfl ?_;intro K' m;go_simp;refine m _ _ ⟨_,_,_,_,_,_,_,_,_,_,_,_,_,_,_,_,_,_,rfl,rfl,?_⟩;exact⟨λ_=>rfl,g.f1,g.f2,g.f3,g.f4,g.f5,g.f6,g.f7,g.f8,g.d,g.wi⟩
    .refine jE rfl ?_;intro K' m;go_simp;refine m _ _ ⟨_,_,_,_,_,_,_,_,_,_,_,_,_,_,_,_,_,_,rfl,rfl,?_⟩;exact⟨g.f0,λ_=>rfl,g.f2,g.f3,g.f4,g.f5,g.f6,g.f7,g.f8,g.d,g.wi⟩
    .refine jE rfl ?_;intro K' m;have e1:=g.f1 (by simp[hc]);subst e1;have t:y=false:=by
      cases y with
      |false=>rfl
      |true=>exact absurd ((g.d.2.1 (g.d.1 rfl)).1) (by simp[hc])
     subst t;have q:Kept [] C W:=g.wi;have c0:W.cell? ⟨ba,0,none⟩=some (.string nm):=by rw[fw (q.at a7.out (by simp))];rfl
     go_simp;refine m _ _ ⟨_,_,_,_,_,_,_,_,_,_,_,_,_,_,_,_,_,_,rfl,rfl,?_⟩;exact⟨g.f0,g.f1,λ_=>rfl,g.f3,g.f4,g.f5,g.f6,g.f7,g.f8,⟨g.d.1,λh=>⟨rfl,(g.d.2.1 h).2⟩,g.d.2.2.1,g.d.2.2.2⟩,g.wi⟩
    .refine jE rfl ?_;intro K' m;go_simp;refine m _ _ ⟨_,_,_,_,_,_,_,_,_,_,_,_,_,_,_,_,_,_,rfl,rfl,?_⟩;exact⟨g.f0,g.f1,g.f2,λ_=>rfl,g.f4,g.f5,g.f6,g.f7,g.f8,g.d,g.wi⟩
    .refine jE rfl ?_;intro K' m;have e3:=g.f3 (by simp[hc]);subst e3;have t:y=false:=by
      cases y with
      |false=>rfl
      |true=>exact absurd (g.d.2.2.2 (g.d.2.2.1 ((g.d.2.1 (g.d.1 rfl)).2))) (by simp[hc])
     subst t;have q:Kept [] C W:=g.wi;have c1:W.cell? ⟨ba,1,none⟩=some (.string A):=by rw[fw (q.at a7.out (by simp))];rfl
     go_simp;refine m _ _ ⟨_,_,_,_,_,_,_,_,_,_,_,_,_,_,_,_,_,_,rfl,rfl,?_⟩;exact⟨g.f0,g.f1,g.f2,g.f3,λ_=>rfl,g.f5,g.f6,g.f7,g.f8,⟨g.d.1,g.d.2.1,g.d.2.2.1,λ_=>rfl⟩,g.wi⟩
    .refine jE rfl ?_;intro K' m;have e4:=g.f4 (by simp[hc]);subst e4;have t:y=false:=by
      cases y with
      |false=>rfl
      |true=>exact absurd (g.d.2.2.1 ((g.d.2.1 (g.d.1 rfl)).2)) (by simp[hc])
     subst t;have q:Kept [] C W:=g.wi;have C1:=LQ A W (a8.kept q) (by omega);go_simp;refine C1.mono ?_;rintro e W2 ⟨rfl,a2⟩;refine m _ _ ⟨_,_,_,_,_,_,_,_,_,_,_,_,_,_,_,_,_,_,rfl,rfl,?_⟩;exact⟨g.f0,g.f1,g.f2,g.f3,g.f4,λ_=>rfl,g.f6,λh=>absurd (g.d.2.2.1 (g.d.2.1 h).2) (by simp[hc]),g.f8,⟨g.d.1,g.d.2.1,λ_=>rfl,λ_=>by simp[hc]⟩,(by simp only[rL,↓reduceIte];exact q.trans a2)⟩
    .refine jE rfl ?_;intro K' m;have e5:=g.f5 (by simp[hc]);subst e5;have t:y=false:=by
      cases y with
      |false=>rfl
      |true=>exact absurd ((g.d.2.1 (g.d.1 rfl)).2) (by simp[hc])
     subst t;have q:Kept [] C W:=g.wi;have C1:=DW (Ae A) oU oy W (a8.kept q) (by have:=Ee A;omega) (by decide) (by decide);go_simp;refine C1.mono ?_;rintro e W2 ⟨rfl,a2⟩;refine m _ _ ⟨_,_,_,_,_,_,_,_,_,_,_,_,_,_,_,_,_,_,rfl,rfl,?_⟩;exact⟨g.f0,g.f1,g.f2,g.f3,g.f4,g.f5,λ_=>rfl,λh=>absurd (g.d.2.1 h).2 (by simp[hc]),g.f8,⟨g.d.1,λh=>⟨(g.d.2.1 h).1,rfl⟩,λ_=>by simp[hc],g.d.2.2.2⟩,(by simp only[rL,↓reduceIte];exact q.trans a2)⟩
    .refine jE rfl ?_;intro K' m;have e2:=g.f2 (by simp[hc]);subst e2;have e6:=g.f6 (by simp[hc]);subst e6;have t:y=false:=by
      cases y with
      |false=>rfl
      |true=>exact absurd (g.d.1 rfl) (by simp[hc])
     subst t;have q:Kept [] C W:=g.wi;go_simp;refine m _ _ ⟨_,_,_,_,_,_,_,_,_,_,_,_,_,_,_,_,_,_,rfl,rfl,?_⟩;exact⟨g.f0,g.f1,g.f2,g.f3,g.f4,g.f5,g.f6,λ_=>⟨_,rfl,λ_=>fB W _⟩,g.f8,⟨λ_=>rfl,λ_=>⟨by simp[hc],by simp[hc]⟩,g.d.2.2.1,g.d.2.2.2⟩,(by simp only[rL,↓reduceIte];exact q.alloc _)⟩
    .refine jE rfl ?_;intro K' m;have e0:=g.f0 (by simp[hc]);subst e0;have e7:=g.f7 (by simp[hc]);have t:y=false:=by simp[hc]
     subst t;have q:Kept [] C W:=g.wi;have⟨g',e7a,e7b⟩:=e7;subst e7a;have C1:=ax W g' q (e7b rfl);go_simp;refine C1.mono ?_;rintro e W2 ⟨rfl,az⟩;refine m _ _ ⟨_,_,_,_,_,_,_,_,_,_,_,_,_,_,_,_,_,_,rfl,rfl,?_⟩;exact⟨g.f0,g.f1,g.f2,g.f3,g.f4,g.f5,g.f6,λ_=>⟨_,rfl,by simp⟩,λ_=>rfl,⟨λ_=>by simp[hc],g.d.2.1,g.d.2.2.1,g.d.2.2.2⟩,az⟩
   .rintro u a W ⟨b0,b1,b2,b3,b4,b5,b6,b7,y,Q,S,T,U,V,X,Y,Z,a0,rfl,rfl,g⟩ J;simp only[Region.ready,QY,DI]at J;have q0:=J 0 (by decide);simp[Region.binds]at q0;subst q0;have q1:=J 1 (by decide);simp[Region.binds]at q1;subst q1;have q2:=J 2 (by decide);simp[Region.binds]at q2;subst q2;have q3:=J 3 (by decide);simp[Region.binds]at q3;subst q3;have q4:=J 4 (by decide);simp[Region.binds]at q4;subst q4;have q5:=J 5 (by decide);simp[Region.binds]at q5;subst q5;have q6:=J 6 (by decide);simp[Region.binds]at q6;subst q6;have q7:=J 7 (by decide);simp[Region.binds]at q7;subst q7;have q8:=J 8 (by decide);simp[Region.binds]at q8;subst q8;have an:=(show G W from g.wi);clear g J;rename_i KK ae;refine ae _ _ ?_;clear ae KK;go_wp2;go_roundw
    case rel=>
     have hf:=an;rw[am.out]at hf;have⟨l2,r1,r2,r3,re,r4,r5⟩:=hf;exact⟨o+1,l2,by go_num,by omega,r1,r2,r3,re,r4,r5⟩
    case measure=>simp[intOf];omega
   .decide
   .exact⟨_,_,_,_,_,_,_,_,_,_,_,_,_,_,_,_,_,_,rfl,rfl,by simp,by simp,by simp,by simp,by simp,by simp,by simp,by simp,by simp,by simp,(Kept.refl [] C).drew⟩
  .have e:o=fX.length:=by omega
   have ay:x++J2=l++(J1++QD fX++J2):=by rw[z,e,List.take_length];simp only[vw]
   clear z;have D2:=C2 wr x hW (by omega) P;clear C2 hW P D
   go_wp21
   refine D2.mono ?_;rintro e w2 ⟨rfl,h2,k2,_⟩;have⟨p,v,hb,hBb⟩:=h2.cells;have c3:w2.cell? ⟨b,3,none⟩=some (.bool fl):=by rw[fw hb];rfl
   have c2:w2.cell? ⟨b,2,none⟩=some (.func (.func kv) #[] lb):=by rw[fw hb];rfl
   have f3:=fA hb 3;have aF:=iB hb;obtain⟨N,ag⟩:∃N,N=(s.toList==[115,116,121,108,101]):=⟨_,rfl⟩;have ad:=h2.set N;have a4:Kept [] F (w2.setCell ⟨b,3,none⟩ (.bool N)):=k2.setCell (.inr (by show F.heap.size<=b;omega)) _;have aG:(w2.setCell ⟨b,3,none⟩ (.bool N)).cell? ⟨b,2,none⟩=some (.func (.func kv) #[] lb):=by rw[fw (fI hb 3 _)];rfl
   have D3:=HC _ a4 s;have ar:=(show x++J2≠[]from λe=>H (List.append_eq_nil_iff.1 e).1);have ap:=(show(x++J2).length<=l.length+6000+fX.length*6000000 by rw[lY,aj.out];omega);have H2:=fx ad;have K2:=fx a4;have aa:=fx ag;clear h2 k2 hb HC ad a4;generalize hq:vd s=q at D3;have HQ:=fx hq;clear hq
   go_wp21
   rw[<-aa.out];refine D3.mono ?_;rintro e w3 ⟨rfl,rfl⟩;go_wp2;go_ret;have e9:=aa;subst e9;exact⟨by rw[HQ.out];rfl,⟨_,H2,ap,ar,ay⟩,K2⟩
def zd:Ev->Bool
 | .dt s=>decide (s.size<=5000)
 | .cm s=>decide (s.size<=5000)
 | .tx s=>decide (s.size<=1048576)
 | .enter s fX=>decide (fX.length<=16)&&(fX.all λa=>decide (a.1.size<=5000)&&decide (a.2.size<=66000))&&decide (s.size<=5000)
 | .vA s=>decide (s.size<=5000)
def OM:Ev->Nat
 | .tx s=>240*s.size
 | .enter _ _=>6000+16*6000000
 |_=>6000
def vM (a:List Ev):Nat:=(a.map OM).sum
def vR (a:List Ev) (e:Ev):vM (a++[e])=vM a+OM e:=by simp[vM]
def Y4 {a b : List Ev} (h:a <+:b):vM a<=vM b:=by
 obtain⟨r,rfl⟩:=h;simp[vM]
def Ji (x:List UInt8×Bool):Ev->List UInt8×Bool
 | .dt s=>(x.1++ko [ik,s,ir],x.2)
 | .cm s=>(x.1++ko [mw,s,nT],x.2)
 | .tx s=>(x.1++(if x.2 then s else GS s).data.toList,x.2)
 | .enter s fX=>(x.1++aea s fX,s.toList==[115,116,121,108,101])
 | .vA s=>(x.1++ko [pH,s,ir],false)
def RX (a:List Ev):List UInt8×Bool:=a.foldl Ji ([],false)
def AR (a:List Ev) (e:Ev):RX (a++[e])=Ji (RX a) e:=by simp[RX]
theorem Qc (B b:Nat) (vv:gh) (I:fN->Bool) (A:List Ev) (t:fO) (T:aeK t vv I) (K:K5 t) (m:t.heap.size<=B) (S:∀e∈A,zd e=true) (X:vM A<=140737488355328):
  cq 88 (fW b) I A t (λpre W=>Wu W B b (vv,(RX pre).2) (RX pre).1/\(RX pre).1.length<=vM pre/\(pre.any oZ=true->(RX pre).1≠[])):=by
 have last:∀{pre F},pre++[F] <+:A->zd F=true/\vM pre+OM F<=140737488355328:=by
  intro pre F h;refine⟨S F (h.subset (by simp)),?_⟩;have:=Y4 h;rw[vR]at this;omega
 refine {mono:=?_,dt:=λs=>?_,cm:=λs=>?_,tx:=λs=>?_,vA:=λs=>?_,enter:=?_}
 .rintro pre W E ⟨g,o⟩ Q;exact⟨g.kept Q,o⟩
 .refine⟨447,fW b,λw=>by kernel_rfl,λw=>by kernel_rfl,enters_of func447 (by rfl) rfl,λpre W q y z=>?_⟩;have⟨g,o⟩:=last z;simp only[zd,Bh,OM]at g o;have⟨hl,hz,hne⟩:=y;simp only[AR];generalize RX pre=x at *;have⟨l,a⟩:=x;dsimp only[Ji]at hl hz hne|-;refine(WK B b (vv,a) l s W t hl (by omega) q m).mono ?_;rintro e E ⟨rfl,C,D⟩;refine⟨rfl,⟨C,?_,?_⟩,D⟩
  .rw[vR,lY,Ma,show ik.size=10 from rfl,show ir.size=1 from rfl]
   grind[OM]
  simp[ko]
 .refine⟨416,fW b,λw=>by kernel_rfl,λw=>by kernel_rfl,enters_of func416 (by rfl) rfl,λpre W q y z=>?_⟩;have⟨g,o⟩:=last z;simp only[zd,Bh,OM]at g o;have⟨hl,hz,hne⟩:=y;simp only[AR];generalize RX pre=x at *;have⟨l,a⟩:=x;dsimp only[Ji]at hl hz hne|-;refine(WR B b (vv,a) l s W t hl (by omega) q m).mono ?_;rintro e E ⟨rfl,C,D⟩;refine⟨rfl,⟨C,?_,?_⟩,D⟩
  .rw[vR,lY,Ma,show mw.size=4 from rfl,show nT.size=3 from rfl]
   grind[OM]
  simp[ko]
 .refine⟨448,fW b,λw=>by kernel_rfl,λw=>by kernel_rfl,enters_of func448 (by rfl) rfl,λpre W q y z=>?_⟩;have⟨g,o⟩:=last z;simp only[zd,Bh,OM]at g o;have⟨hl,hz,hne⟩:=y;simp only[AR];generalize RX pre=x at *;have⟨l,a⟩:=x;dsimp only[Ji]at hl hz hne|-;have G:∀u:fN,u.size<=240*s.size->(l++u.data.toList).length<=vM (pre++[.tx s])/\((pre++[Ev.tx s]).any oZ=true->l++u.data.toList≠[]):=by
   intro u V;refine⟨?_,?_⟩
   .rw[vR,lY,show u.data.toList.length=u.size from zk]
    grind[OM]
   .intro h;rw[List.any_append]at h;have J:pre.any oZ=true:=by simpa [oZ]using h
    simp_all
  cases a with
  |false=>
   refine(aey B b (vv,false) l s W t hl K rfl g (by omega) q m).mono ?_;rintro e E ⟨rfl,C,D⟩;have⟨f1,f2⟩:=G _ (Qd s)
   grind
  |true=>
   refine(aeA B b (vv,true) l s W t hl rfl (by omega) q m).mono ?_
   grind
 .refine⟨418,fW b,λw=>by kernel_rfl,λw=>by kernel_rfl,enters_of func418 (by rfl) rfl,λpre W q y z=>?_⟩;have⟨g,o⟩:=last z;simp only[zd,Bh,OM]at g o;have⟨hl,hz,hne⟩:=y;simp only[AR];generalize RX pre=x at *;have⟨l,a⟩:=x;dsimp only[Ji]at hl hz hne|-;refine(ab3 B b (vv,a) l s W t hl (by omega) q m).mono ?_;rintro e E ⟨rfl,C,D⟩;refine⟨rfl,⟨C,?_,?_⟩,D⟩
  .rw[vR,lY,Ma,show pH.size=2 from rfl,show ir.size=1 from rfl]
   grind[OM]
  simp[ko]
 .refine⟨417,fW b,λw=>by kernel_rfl,λw=>by kernel_rfl,enters_of func417 (by rfl) rfl,λpre W s N fX q y z O P=>?_⟩;have⟨g,o⟩:=last z;simp only[zd,rl,Bh,LR,OM]at g o;have⟨⟨J,h8⟩,h5⟩:=g;have⟨hl,hz,hne⟩:=y;simp only[AR];generalize RX pre=x at *;have⟨l,a⟩:=x;dsimp only[Ji]at hl hz hne|-;refine(abl B b (vv,a) I l s N fX W t hl T K h5 O J h8 (by omega) q m).mono ?_;rintro e E ⟨rfl,⟨Y,C,U,H,rfl⟩,D⟩;refine⟨rfl,⟨C,?_,λ_=>H⟩,D⟩;rw[vR]
  grind[OM]
theorem ack (B b:Nat) (vv:gh×Bool) (l:List UInt8) (w u:fO) (h:Wu w B b vv l) (A:l≠[]) (o:Kept [] u w) (T:u.heap.size<=B) (C:l.length<=140737488355328):
  Calls prog 43 #[fW b] w λe w'=>e=gO (fR ⟨l.toArray⟩)/\Kept [] u w':=by
 obtain⟨p,X,v,t,q,Q⟩:∃p,Xx w B b vv p l:=by
  rcases h with h|h
  all_goals grind
 have N:l.length≠0:=by simpa using A
 obtain⟨g,a,m,rfl,G,J,P,H,I,z⟩:∃g a m,v=mW g l.length a/\B<=g/\w.heap[g]?=some (fV m 5)/\l.length<=a/\a<=maxLen/\m.size=a*1/\m.toList.take (l.length*1)=Lib.byteCells l:=by
  rcases q.2 with⟨_,Y⟩|⟨g,a,m,S,r⟩
  .omega
  .exact⟨g,a,m,S,r⟩
 have V:w.drew.cell? ⟨b,1,none⟩=some (mW g l.length a):=by
  have:w.drew.heap[b]?=some (fV #[p,mW g l.length a,vv.1,.bool vv.2] 100):=t;rw[Lib.cell_of_heap this];rfl
 have O:=iB t;have E:(Builtin.unsafeSliceData_ #[55] 143 #[mW g l.length a]).run prog w.drew= .ok (fW g) w.drew:=
  Lib.run_unsafeSliceData_row _ _ _ _ _ _ (by omega)
 have F:(Builtin.unsafeString_ #[143,3] 9 #[fW g,fK l.length]).run prog w.drew= .ok (fR ⟨l.toArray⟩) (w.drew.freeze ⟨g,0,none⟩ l.length):=by
  refine Lib.run_unsafeString_row w.drew 143 3 9 5 underlying143 rfl g m.size (by have y:w.drew.heap[g]?=some (fV m 5):=J;simp[World.shape?,y]) l A ?_ ?_ ?_
  .omega
  .omega
  .intro j x U;have:=q.cells (g:=g) rfl j (.int .u8 x.toNat) (by simp[Lib.byteCells,U]);exact this
 have D:Hid (Kept [] u (w.drew.freeze ⟨g,0,none⟩ l.length)):=fx (I1 (Lib.below_freeze (Below.drew ⟨o.os,o.tape,o.output,o.size,λk K=>o.block k K (by simp)⟩) (p:=⟨g,0,none⟩) (by grind) _));go_enter func43,ntmps43;go_wp2;go_region
 all_goals (go_wp2;go_ret;exact⟨rfl,D⟩)
theorem acr (B b:Nat) (vv:gh×Bool) (w F:fO) (h:Wu w B b vv []) (A:Kept [] F w):
  Calls prog 43 #[fW b] w λe w'=>e=gO (fR js)/\Kept [] F w':=by
 obtain⟨p,O,v,o,t,K⟩:∃p,Xx w B b vv p []:=by
  rcases h with h|h
  all_goals grind
 have C:=iB o;have m:=λ(W:fO) (p:Option Addr)=>Lib.run_unsafeString_none (P:=prog) (w:=W) 143 3 9 p;have u:=A;rcases t.2 with⟨rfl,_⟩|⟨g,a,y,rfl,I,J,Q⟩
 .have x:w.drew.cell? ⟨b,1,none⟩=some (iQ):=by
   have:w.drew.heap[b]?=some (fV #[p,iQ,vv.1,.bool vv.2] 100):=o;rw[Lib.cell_of_heap this];rfl
  have q:(Builtin.unsafeSliceData_ #[55] 143 #[iQ]).run prog w.drew= .ok (.pointer none) w.drew:=Lib.run_unsafeSliceData_nil _ _ _ _ _;have D:=m w.drew none;go_enter func43,ntmps43;go_wp2;go_region
  all_goals (go_wp2;go_ret;exact⟨rfl,u.drew⟩)
 .have x:w.drew.cell? ⟨b,1,none⟩=some (mW g 0 a):=by
   have:w.drew.heap[b]?=some (fV #[p,mW g 0 a,vv.1,.bool vv.2] 100):=o;rw[Lib.cell_of_heap this];rfl
  by_cases E:a=0
  .subst E;have q:(Builtin.unsafeSliceData_ #[55] 143 #[mW g 0 0]).run prog w.drew= .ok (fW w.drew.heap.size) (w.drew.alloc (.view ⟨g,0,none⟩ 5)):=by
    have z:w.drew.heap[g]?=some (fV y 5):=J;exact Lib.run_unsafeSliceData_zero _ _ _ 5 underlying143 ⟨g,0,none⟩ 0 _ (by simp only[World.shape?,z];rfl)
   have D:=m (w.drew.alloc (.view ⟨g,0,none⟩ 5)) (some ⟨w.drew.heap.size,0,none⟩);have H:=m (w.alloc (.view ⟨g,0,none⟩ 5)).drew (some ⟨w.heap.size,0,none⟩);have N:w.cell? ⟨b,1,none⟩=some (mW g 0 0):=x;have c2:(w.drew.alloc (.view ⟨g,0,none⟩ 5)).cell? ⟨b,1,none⟩=some (mW g 0 0):=by rw[pR _ _ _ C];exact x
   have G:=u.drew.alloc (.view ⟨g,0,none⟩ 5);go_enter func43,ntmps43;go_wp2;go_region
   all_goals (go_wp2;go_ret;exact⟨rfl,G⟩)
  .have q:(Builtin.unsafeSliceData_ #[55] 143 #[mW g 0 a]).run prog w.drew= .ok (fW g) w.drew:=Lib.run_unsafeSliceData_row _ _ _ _ _ _ E;have D:=m w.drew (some ⟨g,0,none⟩);go_enter func43,ntmps43;go_wp2;go_region
   all_goals (go_wp2;go_ret;exact⟨rfl,u.drew⟩)
def acd (B b:Nat) (vv:gh×Bool) (l:List UInt8) (w m:fO) (h:Wu w B b vv l) (a:Kept [] m w) (o:m.heap.size<=B) (g:l.length<=140737488355328):
  Calls prog 43 #[fW b] w λe w'=>e=gO (fR ⟨l.toArray⟩)/\Kept [] m w':=by
 by_cases q:l=[]
 .subst q;exact acr B b vv w m h a
 .exact ack B b vv l w m h q a o g
def Qt (w:fO) (k:Nat) (g:fN) (fX:kZ) (o:List Tn) (h:jo w (.el g fX o) (.el k)) (U:th w) (X:K5 w)
  (x:∀I,(∀e∈uZ I o,zd e=true)/\vM (uZ I o)<=140737488355328):
  Calls prog 32 #[fW k] w λe w'=>e=gO (fR ⟨(RX (uZ (VI sy 1) o)).1.toArray⟩)/\Kept [] w w':=by
 have J:=BL w U;have K:=(λq W (C:sn W q (AF sy))=>TV q 1 sy W C (by decide) UL);have T:=h;have S:=X;have Q:=x;go_enter func32,ntmps32
 go_wp21
 refine J.mono ?_;rintro e w1 ⟨q,rfl,C,t,_⟩;have P:=K q w1 C
 go_wp21
 refine P.mono ?_;rintro e a ⟨⟨v,rfl,H⟩,y⟩;have D:=H.eG;have⟨kk,lb,hvv,_⟩:=H.call;subst hvv;have m:=t.trans y;have⟨h1,H2⟩:=Q (VI sy 1);have F:=(Kept.refl [] a).alloc (fV #[.pointer none,iQ,.func (.func kk) #[] lb,.bool false] 100);have E:Wu (a.alloc (fV #[.pointer none,iQ,.func (.func kk) #[] lb,.bool false] 100)) a.heap.size a.heap.size (.func (.func kk) #[] lb,false) []:= .inl ⟨gr _,_,fB a _,oD _ _ _ _,by simp[Value.ownBlock]⟩;have V:=Qc a.heap.size a.heap.size _ _ (uZ (VI sy 1) o) a D (S.kept m) (gr _) h1 H2;have N:=yo V k g fX o (jo.kept m T) rfl _ F ⟨E,im _,by simp⟩
 go_wp21
 refine N.mono ?_;rintro e w4 ⟨rfl,⟨G,hz,Z⟩,z⟩;have⟨p,vv,hbk,_⟩:=G.cells;have Y:=iB hbk;have O:=acd _ _ _ _ w4 a G z (gr _) (jC hz H2)
 go_wp21
 refine O.mono ?_;rintro e w5 ⟨rfl,A⟩;have u:=m.trans A;go_wp2;go_ret;exact⟨rfl,u⟩
def Ye (w:fO) (bx k:Nat) (c:jB) (a:fN) (fX:kZ) (g:List Tn) (o:VH w bx c k) (h:jo w (.el a fX g) (.el k)) (y:th w) (z:K5 w)
  (m:∀q,(∀e∈uZ q g,zd e=true)/\vM (uZ q g)<=140737488355328):
  Calls prog 19 #[fW bx] w λe w'=>e=gO (fR ⟨(RX (uZ (VI sy 1) g)).1.toArray⟩)/\Kept [] w w':=by
 have t:=Gm w bx k c o;have u:=Qt w k a fX g h y z m;have C:=o.vc;have A:=iB o.1;go_enter func19,ntmps19
 go_wp21
 refine t.mono ?_;rintro e D ⟨rfl,rfl⟩
 go_wp21
 refine u.mono ?_;rintro e E ⟨rfl,x⟩;go_wp2;go_ret;exact⟨rfl,x⟩
def BW (s:fN):js++s=s:=by
 rfl
def B9:jB:=#[fK 0,fK 0,iQ,fR js,iQ]
theorem zw {base : Nat} {e : TypeId} {u : Nat} {xs : List gh} (q:w.ownsRow base e u v n xs) {c : jB} {t : TypeId} (y:w.heap[b]?=some (fV c t)) (o:e≠t):∀k,v.ownBlock=some k->k∉[b]:=by
 intro k a m;have e1:=List.mem_singleton.1 m;subst e1;rcases q.2 with⟨e2,_⟩|⟨A,g,h,e2,_,z,_⟩
 .rw[e2]at a;cases a
 .rw[e2]at a;have x:=jr a
  grind
def ux (T:List Tn):List It:=kX (uZ (λ_=>false) T)
def VH.of (h:w.heap[bx]?=some (fV (C6 d f l n v k) 76)):VH w bx (C6 d f l n v k) k:=⟨h,rfl⟩
structure Told where
 c:Nat
 p:Nat
 cW:List It
 fq:fN
 cf:List Sp
def NN (w:fO) (X:Told) (e:Ending) (w':fO):Prop:=∃q g a h m o,e=gO (.tuple #[.agg #[fK X.c,fK X.p,.slice q g a,fR X.fq,.slice h m o],.bool true])/\w'.ownsRow w.heap.size 57 3 (.slice q g a) X.cW.length (wG X.cW)/\w'.ownsRow w.heap.size 53 3 (.slice h m o) X.cf.length (j8 X.cf)/\Kept [] w w'
def Zk (T:List Tn):fN:=⟨(RX (uZ (VI sy 1) T)).1.toArray⟩
def Yd (T:List Tn):Prop:=(∀a,(∀e∈uZ a T,zd e=true)/\vM (uZ a T)<=140737488355328)/\(ux T).length<=1000000000
structure cR (w:fO) (bx R1 R2 k:Nat) (d f l:Int) (n:Nat) (v:gh) (L:List Sp) (D:Tn) (c2:jB) (W:fO):Prop where
 px:W.heap[bx]?=some (fV (C6 d f l n v k) 76)
 tr:jo W D (.el k)
 sp:W.ownsRow 0 53 3 v L.length (j8 L)
 r1:W.heap[R1]?=some (fV B9 28)
 r2:W.heap[R2]?=some (fV c2 28)
 ne:R1≠R2
 ge:w.heap.size<=R2
 kp:Kept [] w W
def cR.k0 {D : Tn} {g : fO} (h:cR w bx R1 R2 k d f l n v L D c2 W) (a:Kept [] W g):cR w bx R1 R2 k d f l n v L D c2 g:=
 ⟨a.at h.px (by simp),jo.kept a h.tr,a.ownsRow h.sp (λ_ _=>by simp),a.at h.r1 (by simp),a.at h.r2 (by simp),h.ne,h.ge,h.kp.trans a⟩
def cR.set {D : Tn} (h:cR w bx R1 R2 k d f l n v L D c2 W) (j:Nat) (u:gh):cR w bx R1 R2 k d f l n v L D (c2.setIfInBounds j u) (W.setCell ⟨R2,j,none⟩ u):=by
 have a:Kept [R2] W (W.setCell ⟨R2,j,none⟩ u):=(Kept.refl _ _).setCell (.inl (by simp)) _;have x:bx∉[R2]:=by
  intro y;have e:=List.mem_singleton.1 y;have m:=h.px;rw[e,h.r2]at m;simp at m
 exact⟨a.at h.px x,jo.kn (KN.jl a (λq z c t g o=>by
   have e:=List.mem_singleton.1 z;subst e;rw[h.r2]at g;simp at g;rw[<-g.2]at o;revert o;decide)) h.tr,a.ownsRow h.sp (zw h.sp h.r2 (by decide)),a.at h.r1 (by simpa using h.ne),fI h.r2 j u,h.ne,h.ge,h.kp.setCell (.inr h.ge) _⟩
structure cQ (w:fO) (bx R1 R2 k c p:Nat) (d f l:Int) (c2:jB) (W:fO):Prop where
 px:W.heap[bx]?=some (fV (zx d f l p k) 76)
 st:kh W k c p
 er:errorType W
 r1:W.heap[R1]?=some (fV B9 28)
 r2:W.heap[R2]?=some (fV c2 28)
 ne:R1≠R2
 ge:w.heap.size<=R2
 el:0 < w.heap.size
 kp:Kept [] w W
def cQ.k0 {g : fO} (h:cQ w bx R1 R2 k c p d f l c2 W) (a:Kept [] W g):cQ w bx R1 R2 k c p d f l c2 g:=
 ⟨a.at h.px (by simp),a.at h.st (by simp),h.er.kept a (by simp),a.at h.r1 (by simp),a.at h.r2 (by simp),h.ne,h.ge,h.el,h.kp.trans a⟩
theorem cQ.set (h:cQ w bx R1 R2 k c p d f l c2 W) (j:Nat) (u:gh):cQ w bx R1 R2 k c p d f l (c2.setIfInBounds j u) (W.setCell ⟨R2,j,none⟩ u):=by
 have g:Kept [R2] W (W.setCell ⟨R2,j,none⟩ u):=(Kept.refl _ _).setCell (.inl (by simp)) _;have o:bx∉[R2]:=by
  intro m;have e:=List.mem_singleton.1 m;have a:=h.px;rw[e,h.r2]at a;simp at a
 have q:k∉[R2]:=by
  intro m;have e:=List.mem_singleton.1 m;have a:=h.st;unfold kh at a;rw[e,h.r2]at a;simp at a
 exact⟨g.at h.px o,g.at h.st q,h.er.kept g (by have:=h.el;have:=h.ge;grind),g.at h.r1 (by simpa using h.ne),fI h.r2 j u,h.ne,h.ge,h.el,h.kp.setCell (.inr h.ge) _⟩
def S8 (s:fN) (d f l:Nat) (w:fO) (hs:s.size<=1024) (hd:4<=d/\d<=64) (hf:1<=f/\f<=32) (hl:1<=l/\l<=16) (hT:ya w) (hg:K5 w) {nm : fN} {fX : kZ} {T : List Tn} (hn:Np s d f l (.el nm fX T) L) (hE:Yd T):
  Calls prog 8 #[fR s,fK d,fK f,fK l,iQ] w (NN w ⟨0,s.size,ux T,Zk T,L⟩):=by
 obtain⟨x,N⟩:∃x,x=w.alloc (.cells B9 28):=⟨_,rfl⟩;have k0:Kept [] w x:=by rw[N];exact(Kept.refl _ _).alloc _
 have z0:x.heap.size=w.heap.size+1:=by rw[N];simp
 have r0:x.heap[w.heap.size]?=some (fV B9 28):=by rw[N];exact fB w _
 have CN:=fx (Vb (d:Int) (f:Int) (l:Int) x ⟨by omega,by omega,by omega,by omega,by omega,by omega⟩);have HW:=fx (show w.alloc (.cells B9 28)=x from N.symm);unfold B9 at HW;have HE:=fx hE;have HT:=fx hT;have HG:=fx hg;have aF:=fx hn;have aC:=fx k0;have HZ:=fx z0;have HR:=fx r0;clear N k0 z0 r0 hT hg hn hE;go_enter func8,ntmps8
 go_wp21
 rw[HW.out];refine CN.out.mono ?_;rintro e w1 ⟨rfl,aa,al⟩;have CW:=λ(t:fN) (ht:t.size<=1024)=>Mr x.heap.size ((d:Int),(f:Int),(l:Int)) (iQ) ⟨#[]⟩ t w1.heap.size w1 aa (oD _ _ _ _) (by show 0+t.size<=1024;omega) (gr _);simp only[BW]at CW;have aB:=fx (CW s hs);have aA:=fx CW;have aD:=fx al;have aN:=fx (iB aa);clear CW aa al CN
 go_wp21
 refine vB 2 ?_;rw[oj]
 by_cases h0:s.size=0
 have e1:ByteArray.empty=s:=by apply kI;exact(xV h0).symm
 have hz:((ByteArray.empty).size:Int)=0:=rfl;have C0:=fx (aA.out ByteArray.empty (by decide));have E1:=fx e1;clear e1
 go_wp21
 refine C0.out.mono ?_;rintro e a ⟨rfl,y⟩;rw[E1.out]at y;have a1:=fx y;clear y C0
 go_wp21
 clear h0 hz
 rotate_left
 go_wp21
 refine aB.out.mono ?_;rintro e a ⟨rfl,y⟩;have a1:=fx y;clear y
 go_wp21
 rw[oj]
 go_wp21
 all_goals
  have y:=a1.out;clear a1;have⟨tv,hx2,ow2,hk2,_⟩:=y;have a3:Kept [] x a:=aD.out.next (S':=x.heap.size::(iQ).ownBlock.toList) hk2 (by simp[Value.ownBlock]);have k3:Kept [] a (a.alloc (.cells #[fK 0,fK 0,iQ,fR js,iQ] 28)):=(Kept.refl _ _).alloc _;have V:=(aC.out.trans a3).trans k3;have az:=fx (fB a (.cells #[fK 0,fK 0,iQ,fR js,iQ] 28));have CC:=fx (aa1 x.heap.size d f l tv s w1.heap.size _ (k3.at hx2 (by simp)) (k3.ownsRow ow2 (λ_ _=>by simp)) (HT.out.fr (bm:=0) (.gv V)) (HG.out.kept V) aF.out);have ad:=fx V;have aG:=fx (k3.at (a3.at HR.out (by simp)) (by simp));have a0:x.heap.size < a.heap.size:=iB hx2;have a2:=fx a0;clear hx2 ow2 hk2 a3 k3 V a0
  go_wp21
  refine CC.out.mono ?_;rintro e w4 ⟨rfl,v4,k4,aw,au,ar,ao,Q⟩;have ap:a.heap.size∉[x.heap.size]:=by have:=a2.out;simp;omega
  have aq:w.heap.size∉[x.heap.size]:=by have:=HZ.out;simp;omega
  have V4:cR w x.heap.size w.heap.size a.heap.size k4 d f l s.size v4 L (.el nm fX T) #[fK 0,fK 0,iQ,fR js,iQ] w4:=
   ⟨aw,au,jR ar (im _),Q.at aG.out aq,Q.at az.out ap,by have:=HZ.out;have:=a2.out;omega,by have:=HZ.out;have:=a2.out;omega,ad.out.next Q (by have:=HZ.out;simp;omega)⟩
  have d0:=fw V4.r2 0;have f0:=fA V4.r2 0;dsimp at d0;have ES:=fx (nU V4.r2 0 (fK 0) rfl);have CS:=fx (Q4 x.heap.size d f l s.size k4 v4 w4 V4.px);have aH:=fx V4;have aE:=fx ao;clear aw au ar ao Q V4 CC
  go_wp21
  rw[ES.out];refine CS.out.mono ?_;rintro e w6 ⟨rfl,am⟩;have V6:=aH.out.k0 am;have g0:=fw V6.r2 0;have g1:=fw V6.r2 1;have y1:=fA V6.r2 1;dsimp at g0 g1;have V7:=V6.set 1 (fK s.size);obtain⟨w7,a7⟩:∃w7,w7=w6.setCell ⟨a.heap.size,1,none⟩ (fK s.size):=⟨_,rfl⟩;rw[<-a7]at V7;have aJ:=fx a7.symm;have CL:=fx (ZS w7 x.heap.size k4 _ _ _ _ (VH.of V7.px) V7.tr (ux T) rfl HE.out.2);have aj:=fx V7;clear am V6 V7 a7 CS
  go_wp21
  rw[aJ.out];refine CL.out.mono ?_;rintro e w8 ⟨v8,rfl,U,an⟩;have⟨a8,p8,hv8⟩:=fS U;subst hv8;have V8:=aj.out.k0 an;have g2:w8.cell? ⟨a.heap.size,2,none⟩=some (iQ):=by rw[fw V8.r2];rfl
  have y2:=fA V8.r2 2;have V9:=V8.set 2 (.slice a8 (ux T).length p8);have a4:(w8.setCell ⟨a.heap.size,2,none⟩ (.slice a8 (ux T).length p8)).ownsRow w.heap.size 57 3 (.slice a8 (ux T).length p8) (ux T).length (wG (ux T)):=((Kept.refl [a.heap.size] w8).setCell (.inl (by simp)) _).ownsRow (jR U aj.out.kp.size) (zw U V8.r2 (by decide));obtain⟨w9,a9⟩:∃w9,w9=w8.setCell ⟨a.heap.size,2,none⟩ (.slice a8 (ux T).length p8):=⟨_,rfl⟩;rw[<-a9]at V9 a4;have aK:=fx a9.symm;have CX:=fx (Ye w9 x.heap.size k4 _ _ _ _ (VH.of V9.px) V9.tr (HT.out.fr (bm:=0) (.gv V9.kp)).1 (HG.out.kept V9.kp) HE.out.1);have aI:=fx V9;have ag:=fx a4;clear U an V8 V9 a4 a9 CL
  go_wp21
  rw[aK.out];refine CX.out.mono ?_;rintro e ab ⟨rfl,C⟩;obtain⟨A,K⟩:∃A:fN,A=⟨(RX (uZ (VI sy 1) T)).1.toArray⟩:=⟨_,rfl⟩;rw[<-K];have ai:=fx K;have F:=aI.out.k0 C;have g3:ab.cell? ⟨a.heap.size,3,none⟩=some (fR js):=by rw[fw F.r2];rfl
  have y3:=fA F.r2 3;have G:=F.set 3 (fR A);have I:=((Kept.refl [a.heap.size] ab).setCell (p:=⟨a.heap.size,3,none⟩) (.inl (by simp)) (fR A)).ownsRow (C.ownsRow ag.out (λ_ _=>by simp)) (zw (C.ownsRow ag.out (λ_ _=>by simp)) F.r2 (by decide));obtain⟨ac,O⟩:∃ac,ac=ab.setCell ⟨a.heap.size,3,none⟩ (fR A):=⟨_,rfl⟩;rw[<-O]at G I;have ak:=fx O.symm;have CT:=fx (adD x.heap.size d f l s.size k4 0 v4 L ac G.px G.sp (by have:=aE.out;omega));have Y:=fx G;have ae:=fx I;clear C F G I O CX K
  go_wp21
  rw[ak.out];refine CT.out.mono ?_;rintro e g ⟨aO,rfl,J,H⟩;have⟨a12,c12,hv12⟩:=fS J;subst hv12;have D:=Y.out.k0 H;have Z:=H.ownsRow ae.out (λ_ _=>by simp);have ah:=fx (jR J Y.out.kp.size);generalize hlen:(ux T).length=ax at *;generalize hlen2:L.length=ay at *;have X:=fx hlen;have E:=fx hlen2;have z:=D.r2;have o:=D.r1;have m0:g.cell? ⟨a.heap.size,0,none⟩=some (fK 0):=by rw[fw z];rfl
  have m1:g.cell? ⟨a.heap.size,1,none⟩=some (fK s.size):=by rw[fw z];rfl
  have m2:g.cell? ⟨a.heap.size,2,none⟩=some (.slice a8 ax p8):=by rw[fw z];rfl
  have m3:g.cell? ⟨a.heap.size,3,none⟩=some (fR A):=by rw[fw z];rfl
  have m4:g.cell? ⟨a.heap.size,4,none⟩=some (iQ):=by rw[fw z];rfl
  have y4:=fA z 4;have u0:g.cell? ⟨w.heap.size,0,none⟩=some (fK 0):=by rw[fw o];rfl
  have u1:g.cell? ⟨w.heap.size,1,none⟩=some (fK 0):=by rw[fw o];rfl
  have u2:g.cell? ⟨w.heap.size,2,none⟩=some (iQ):=by rw[fw o];rfl
  have u3:g.cell? ⟨w.heap.size,3,none⟩=some (fR js):=by rw[fw o];rfl
  have u4:g.cell? ⟨w.heap.size,4,none⟩=some (iQ):=by rw[fw o];rfl
  have j0:=fA o 0;have j1:=fA o 1;have j2:=fA o 2;have j3:=fA o 3;have j4:=fA o 4;have aM:w.heap.size≠a.heap.size:=D.ne;have av:a.heap.size≠w.heap.size:=λh=>D.ne h.symm;have u:=fx D;have af:=fx Z;clear D Z z o H CT J hlen hlen2;go_wp2;refine nK (v:= .tuple #[.agg #[fK 0,fK s.size,.slice a8 ax p8,fR A,.slice a12 ay c12],.bool true]) ?_ rfl ⟨_,_,_,_,_,_,by rw[ai.out];rfl,?_,?_,?_⟩
  .simp[results,results8,asAddr,Result.andThen,go_sem,u0,u1,u2,u3,u4,aM,av]
  .have P:=af.out;rw[<-X.out]at P;rw[<-X.out];have h5:=zw P u.out.r2 (by decide);have h6:=zw P u.out.r1 (by decide);refine Kept.ownsRow (S:=[a.heap.size,w.heap.size]) (((((((Kept.refl _ g).setCell (.inl (by simp)) _).setCell (.inl (by simp)) _).setCell (.inl (by simp)) _).setCell (.inl (by simp)) _).setCell (.inl (by simp)) _).setCell (.inl (by simp)) _) P (λq hq=>?_);have a5:=h5 q hq;have a6:=h6 q hq;simp at a5 a6|-;omega
  .have P:=ah.out;rw[<-E.out]at P;rw[<-E.out];have h5:=zw P u.out.r2 (by decide);have h6:=zw P u.out.r1 (by decide);refine Kept.ownsRow (S:=[a.heap.size,w.heap.size]) (((((((Kept.refl _ g).setCell (.inl (by simp)) _).setCell (.inl (by simp)) _).setCell (.inl (by simp)) _).setCell (.inl (by simp)) _).setCell (.inl (by simp)) _).setCell (.inl (by simp)) _) P (λq hq=>?_);have a5:=h5 q hq;have a6:=h6 q hq;simp at a5 a6|-;omega
  .have m:=u.out.kp;have aL:=u.out.ge;exact(((((m.setCell (.inr aL) _).setCell (.inr (gr _)) _).setCell (.inr (gr _)) _).setCell (.inr (gr _)) _).setCell (.inr (gr _)) _).setCell (.inr (gr _)) _
def Sf (s:fN) (d f l:Nat) (w:fO) (hs:s.size<=1024) (hd:4<=d/\d<=64) (hf:1<=f/\f<=32) (hl:1<=l/\l<=16) (hT:ya w) (hg:K5 w) (hn:MV s d f l c p) (hE:errorType w) (an:0 < w.heap.size):
  Calls prog 8 #[fR s,fK d,fK f,fK l,iQ] w (NN w ⟨c,p,[],⟨#[]⟩,[]⟩):=by
 obtain⟨q,A⟩:∃q,q=w.alloc (.cells B9 28):=⟨_,rfl⟩;have k0:Kept [] w q:=by rw[A];exact(Kept.refl _ _).alloc _
 have z0:q.heap.size=w.heap.size+1:=by rw[A];simp
 have r0:q.heap[w.heap.size]?=some (fV B9 28):=by rw[A];exact fB w _
 have CN:=fx (Vb (d:Int) (f:Int) (l:Int) q ⟨by omega,by omega,by omega,by omega,by omega,by omega⟩);have HW:=fx (show w.alloc (.cells B9 28)=q from A.symm);unfold B9 at HW;have HE:=fx hE;have HT:=fx hT;have HG:=fx hg;have af:=fx hn;have ad:=fx k0;have X:=fx z0;have HR:=fx r0;clear A k0 z0 r0 hT hg hn hE;go_enter func8,ntmps8
 go_wp21
 rw[HW.out];refine CN.out.mono ?_;rintro e w1 ⟨rfl,U,a1⟩;have CW:=λ(t:fN) (ht:t.size<=1024)=>Mr q.heap.size ((d:Int),(f:Int),(l:Int)) (iQ) ⟨#[]⟩ t w1.heap.size w1 U (oD _ _ _ _) (by show 0+t.size<=1024;omega) (gr _);simp only[BW]at CW;have ac:=fx (CW s hs);have ab:=fx CW;have ae:=fx a1;have aq:=fx (iB U);clear CW U a1 CN
 go_wp21
 refine vB 2 ?_;rw[oj]
 by_cases h0:s.size=0
 have e1:ByteArray.empty=s:=by apply kI;exact(xV h0).symm
 have hz:((ByteArray.empty).size:Int)=0:=rfl;have C0:=fx (ab.out ByteArray.empty (by decide));have E1:=fx e1;clear e1
 go_wp21
 refine C0.out.mono ?_;rintro e g ⟨rfl,u⟩;rw[E1.out]at u;have N:=fx u;clear u C0
 go_wp21
 clear h0 hz
 rotate_left
 go_wp21
 refine ac.out.mono ?_;rintro e g ⟨rfl,u⟩;have N:=fx u;clear u
 go_wp21
 rw[oj]
 go_wp21
 all_goals
  have u:=N.out;clear N;have⟨tv,hx2,ow2,hk2,_⟩:=u;have P:Kept [] q g:=ae.out.next (S':=q.heap.size::(iQ).ownBlock.toList) hk2 (by simp[Value.ownBlock]);have k3:Kept [] g (g.alloc (.cells #[fK 0,fK 0,iQ,fR js,iQ] 28)):=(Kept.refl _ _).alloc _;have D:=(ad.out.trans P).trans k3;have aa:=fx (fB g (.cells #[fK 0,fK 0,iQ,fR js,iQ] 28));have CC:=fx (Rm q.heap.size d f l tv s w1.heap.size _ (k3.at hx2 (by simp)) (k3.ownsRow ow2 (λ_ _=>by simp)) (HT.out.fr (bm:=0) (.gv D)) (HG.out.kept D) af.out (HE.out.kept D (by simp)) (by have:=X.out;omega));have G:=fx D;have ag:=fx (k3.at (P.at HR.out (by simp)) (by simp));have K:q.heap.size < g.heap.size:=iB hx2;have O:=fx K;clear hx2 ow2 hk2 P k3 D K
  go_wp21
  refine CC.out.mono ?_;rintro e w3 ⟨k4,rfl,a8,a6,z⟩;have a4:g.heap.size∉[q.heap.size]:=by have:=O.out;simp;omega
  have a5:w.heap.size∉[q.heap.size]:=by have:=X.out;simp;omega
  have V3:cQ w q.heap.size w.heap.size g.heap.size k4 c p d f l #[fK 0,fK 0,iQ,fR js,iQ] w3:=
   ⟨a8,a6,(HE.out.kept G.out (by simp)).kept z (by have:=X.out;simp;omega),z.at ag.out a5,z.at aa.out a4,by have:=X.out;have:=O.out;omega,by have:=X.out;have:=O.out;omega,an,G.out.next z (by have:=X.out;simp;omega)⟩
  have d0:=fw V3.r2 0;have f0:=fA V3.r2 0;dsimp at d0;have Y:=V3.set 0 (fK c);obtain⟨w4,Q⟩:∃w4,w4=w3.setCell ⟨g.heap.size,0,none⟩ (fK c):=⟨_,rfl⟩;rw[<-Q]at Y;have ak:=fx Q.symm;have CS:=fx (Sb q.heap.size d f l c p k4 w4 Y.px Y.st Y.er);have ah:=fx Y;clear a8 a6 z V3 Y Q CC
  go_wp21
  rw[ak.out];refine CS.out.mono ?_;rintro e w6 ⟨rfl,a2⟩;have V6:=ah.out.k0 a2;have g0:w6.cell? ⟨g.heap.size,0,none⟩=some (fK c):=by rw[fw V6.r2];rfl
  have g1:w6.cell? ⟨g.heap.size,1,none⟩=some (fK 0):=by rw[fw V6.r2];rfl
  have y1:=fA V6.r2 1;have V7:=V6.set 1 (fK p);obtain⟨w7,S⟩:∃w7,w7=w6.setCell ⟨g.heap.size,1,none⟩ (fK p):=⟨_,rfl⟩;rw[<-S]at V7;have al:=fx S.symm;have CL:=fx (VK q.heap.size d f l p k4 w7 V7.px);have ai:=fx V7;clear a2 V6 V7 S CS
  go_wp21
  rw[al.out];refine CL.out.mono ?_;rintro e w8 ⟨rfl,a3⟩;have V8:=ai.out.k0 a3;have g2:w8.cell? ⟨g.heap.size,2,none⟩=some (iQ):=by rw[fw V8.r2];rfl
  have y2:=fA V8.r2 2;have V9:=V8.set 2 (iQ);obtain⟨w9,T⟩:∃w9,w9=w8.setCell ⟨g.heap.size,2,none⟩ (iQ):=⟨_,rfl⟩;rw[<-T]at V9;have am:=fx T.symm;have CX:=fx (WB q.heap.size d f l p k4 w9 V9.px);have aj:=fx V9;clear a3 V8 V9 T CL
  go_wp21
  rw[am.out];refine CX.out.mono ?_;rintro e a9 ⟨rfl,I⟩;have E:=aj.out.k0 I;have g3:a9.cell? ⟨g.heap.size,3,none⟩=some (fR js):=by rw[fw E.r2];rfl
  have y3:=fA E.r2 3;have F:=E.set 3 (fR js);obtain⟨V,C⟩:∃V,V=a9.setCell ⟨g.heap.size,3,none⟩ (fR js):=⟨_,rfl⟩;rw[<-C]at F;have a0:=fx C.symm;have CT:=fx (TE q.heap.size d f l p k4 V F.px);have Z:=fx F;clear I E F C CX
  go_wp21
  rw[a0.out];refine CT.out.mono ?_;rintro e o ⟨rfl,J⟩;have y:=Z.out.k0 J;have x:=y.r2;have a:=y.r1;have m0:o.cell? ⟨g.heap.size,0,none⟩=some (fK c):=by rw[fw x];rfl
  have m1:o.cell? ⟨g.heap.size,1,none⟩=some (fK p):=by rw[fw x];rfl
  have m2:o.cell? ⟨g.heap.size,2,none⟩=some (iQ):=by rw[fw x];rfl
  have m3:o.cell? ⟨g.heap.size,3,none⟩=some (fR js):=by rw[fw x];rfl
  have m4:o.cell? ⟨g.heap.size,4,none⟩=some (iQ):=by rw[fw x];rfl
  have y4:=fA x 4;have u0:o.cell? ⟨w.heap.size,0,none⟩=some (fK 0):=by rw[fw a];rfl
  have u1:o.cell? ⟨w.heap.size,1,none⟩=some (fK 0):=by rw[fw a];rfl
  have u2:o.cell? ⟨w.heap.size,2,none⟩=some (iQ):=by rw[fw a];rfl
  have u3:o.cell? ⟨w.heap.size,3,none⟩=some (fR js):=by rw[fw a];rfl
  have u4:o.cell? ⟨w.heap.size,4,none⟩=some (iQ):=by rw[fw a];rfl
  have j0:=fA a 0;have j1:=fA a 1;have j2:=fA a 2;have j3:=fA a 3;have j4:=fA a 4;have ap:w.heap.size≠g.heap.size:=y.ne;have a7:g.heap.size≠w.heap.size:=λh=>y.ne h.symm;have H:=fx y;clear y x a J CT;go_wp2;refine nK (v:= .tuple #[.agg #[fK c,fK p,iQ,fR js,iQ],.bool true]) ?_ rfl ⟨_,_,_,_,_,_,rfl,?_,?_,?_⟩
  .simp[results,results8,asAddr,Result.andThen,go_sem,u0,u1,u2,u3,u4,ap,a7]
  .exact oD _ _ _ _
  .exact oD _ _ _ _
  .have m:=H.out.kp;have ao:=H.out.ge;exact(((((m.setCell (.inr ao) _).setCell (.inr (gr _)) _).setCell (.inr (gr _)) _).setCell (.inr (gr _)) _).setCell (.inr (gr _)) _).setCell (.inr (gr _)) _
def MK:Cd->Prop
 | .el e=>e.name.size<=5000/\e.gy.length<=16/\∀p∈e.gy,p.1.size<=5000/\p.2.size<=66000
 | .tx _=>True
 | .cm s=>s.size<=5000
 | .dt s=>s.size<=5000
def NG (σ:Ab):Prop:=σ.oY<=16/\∀n∈σ.nodes,MK n
structure TG (t:fZ):Prop where
 name:t.name.size<=5000
 len:t.ja.length<=16
 fX:∀p∈t.ja,p.1.size<=5000/\p.2.size<=66000
 cm:∀s,t.k= .gm s->s.size<=5000
 dt:∀n q,t.k= .gP n q->n.size<=5000
def tJ {α:Type} (r:qI α):Prop:=match r with
 | .ok _ σ'=>NG σ'
 | .stop e _=>e≠0
 | .stuck=>True
def Kp {α:Type} (m:M α):Prop:=∀σ,NG σ->tJ (m σ)
def Kp.pure {α:Type} (a:α):Kp (Pure.pure a:M α):=λ_ h=>h
def Kp.stuck {α:Type}:Kp (stuck:M α):=λ_ _=>trivial
def Kp.bind {α t:Type} {m:M α} {f:α->M t} (h:Kp m) (q:∀a,Kp (f a)):Kp (m>>=f):=by
 intro σ o;rw[M.fP];have g:=h σ o;revert g;cases m σ with
 |ok a σ'=>intro g;exact q a σ' g
 |stop e p=>simp[tJ]
 |stuck=>simp[tJ]
theorem Kp.ite {α:Type} {c : Prop} [Decidable c] {a b:M α} (g:Kp a) (h:Kp b):Kp (if c then a else b):=by grind
def Kp.at {α:Type} {m:M α} (h:Kp m) (a:NG σ):tJ (m σ):=h σ a
def NG.mM {σ' : Ab} (h:NG σ) (e1:σ'.nodes=σ.nodes) (e2:σ'.oY=σ.oY):NG σ':=⟨by rw[e2];exact h.1,by rw[e1];exact h.2⟩
def Kp.wj {f : Ab->Ab} (e1:∀σ,(f σ).nodes=σ.nodes) (e2:∀σ,(f σ).oY=σ.oY):Kp (wj f):=λσ h=>h.mM (e1 σ) (e2 σ)
theorem Kp.same {α:Type} {m:M α} (h:∀σ a g,m σ= .ok a g->g=σ) (t:∀σ c p,m σ≠ .stop c p):Kp m:=by
 intro σ u;have o:=h σ;have q:=t σ;revert o q;cases m σ with
 |ok a g=>grind[tJ]
 |stop e p=>simp
 |stuck=>simp[tJ]
def NG.el (h:NG σ) (a:σ.gF i=some e):MK (.el e):=h.2 _ (tK (Ab.iX a))
theorem NG.afn (h:NG σ) {n : Cd} (o:MK n):NG {σ with nodes:=σ.nodes.set i n}:=⟨h.1,λm g=>by
 rcases List.mem_or_eq_of_mem_set g with a|a
 .exact h.2 m a
 grind⟩
def NG.set (h:NG σ) (a:MK (.el e)):NG (σ.gE i e):=h.afn a
theorem NG.add (h:NG σ) {n : Cd} (o:MK n):NG (σ.add n):=⟨h.1,λm g=>by
 rcases List.mem_append.1 g with a|a
 .exact h.2 m a
 grind⟩
def NG.pi (h:NG σ) {n : Cd} (a:MK n) (b:Bool):NG (σ.pi n b):=(h.add a).mM rfl rfl
theorem MK.kids {e' : Al} (h:MK (.el e)) (a:e'.name=e.name) (g:e'.gy=e.gy):MK (.el e'):=by
 grind[MK]
def tJ.ok {α:Type} {a:α} (h:NG σ):tJ (.ok a σ):=h
def Kp.fn {α:Type} {f:Ab->qI α} (h:∀σ,NG σ->tJ (f σ)):Kp (α:=α) f:=h
attribute [simp] Kp.pure Kp.stuck Kp.bind Kp.ite
@[simp] def aa7 {f : Ab->Ab} (h:∀σ,(f σ).nodes=σ.nodes/\(f σ).oY=σ.oY):Kp (wj f):=Kp.wj (λσ=>(h σ).1) (λσ=>(h σ).2)
def C8 (a:Nat->fZ->M Unit):Prop:=∀m t,TG t->Kp (a m t)
@[simp] def Va (σ:Ab):σ.mB.nodes=σ.nodes/\σ.mB.oY=σ.oY:=⟨rfl,rfl⟩
def tJ.st {α:Type}:tJ (α:=α) (.stop (n+1) p):=Nat.succ_ne_zero n
@[simp] def aaB (σ:Ab) (p:fN->Bool):(σ.xE p).nodes=σ.nodes/\(σ.xE p).oY=σ.oY:=⟨rfl,rfl⟩
@[simp] def abN (pl:Nat×Nat) (j:Nat):Kp (nj pl j):=by
 intro σ h;unfold nj;split
 .rename_i m o a g;split
  .refine tJ.ok (NG.set (NG.set h ?_) ?_);exact MK.kids (h.el a) rfl rfl;exact MK.kids (h.el g) rfl rfl
  .trivial
 .trivial
@[simp] def aaE (pl:Nat×Nat) (k:Nd):Kp (zQ pl k):=by
 intro σ h;unfold zQ;split
 .rename_i g a;split
  .exact tJ.ok (NG.set h (MK.kids (h.el a) rfl rfl))
  .trivial
 .trivial
@[simp] def aeV (pl:Nat×Nat) (s:fN):Kp (uT pl s):=by
 intro σ h;unfold uT;split
 .rename_i g a;split
  .split
   .split
    .split
     .exact tJ.ok (NG.afn h (n:= .tx _) trivial)
     .trivial
    .trivial
   .exact tJ.ok (NG.set (NG.add h (n:= .tx _) trivial) (MK.kids (h.el a) rfl rfl))
  .trivial
 .trivial
@[simp] def acw (x:iM):Kp (xx x):=by
 unfold xx;refine Kp.fn λσ h=>?_
 (repeat' split)<;>first|exact h|exact trivial|exact tJ.st|exact tJ.ok (h.mM rfl rfl)|exact Kp.at (by(repeat' first|with_reducible refine Kp.bind ?_ λ_=>?_|with_reducible refine Kp.ite ?_ ?_)<;>simp[*]) h
@[simp] def afU (a:fN) (g:a.size<=5000):Kp (Gr a):=λ_ h=>tJ.ok (NG.add h (n:= .el _) ⟨g,im _,λ_ m=>by cases m⟩)
@[simp] def ady (t:fZ) (a:TG t):Kp (pD t):=by
 intro σ h;unfold pD;split
 .exact tJ.ok (NG.pi h (n:= .el _) ⟨a.name,a.len,a.fX⟩ _)
 .trivial
@[simp] def ZM (p b:fN->Bool):Kp (nh p b):=by
 unfold nh;refine Kp.fn λσ h=>?_
 (repeat' split)<;>first|exact h|exact trivial|exact tJ.st|exact tJ.ok (h.mM rfl rfl)|exact Kp.at (by(repeat' first|with_reducible refine Kp.bind ?_ λ_=>?_|with_reducible refine Kp.ite ?_ ?_)<;>simp[*]) h
@[simp] def Vf:Kp (oF):=by
 simp[oF]
@[simp] def afB (p:fN->Bool):Kp (pQ p):=by refine Kp.wj (λσ=>?_) (λσ=>?_)<;>(unfold Ab.JS;split<;>rfl)
@[simp] def J4 (p:fN->Bool):Kp (uQ p):=aa7 λ_=>⟨rfl,rfl⟩
@[simp] def MG (m:Nat):Kp (ju m):=aa7 λ_=>⟨rfl,rfl⟩
@[simp] def Qv (x:iM):Kp (jY x):=by
 unfold jY;refine Kp.fn λσ h=>?_
 (repeat' split)<;>first|exact h|exact trivial|exact tJ.st|exact tJ.ok (h.mM rfl rfl)|exact Kp.at (by(repeat' first|with_reducible refine Kp.bind ?_ λ_=>?_|with_reducible refine Kp.ite ?_ ?_)<;>simp[*]) h
@[simp] def Zg (x:iM):Kp (kB x):=by
 unfold kB;refine Kp.fn λσ h=>?_
 (repeat' split)<;>first|exact h|exact trivial|exact tJ.st|exact tJ.ok (h.mM rfl rfl)|exact Kp.at (by(repeat' first|with_reducible refine Kp.bind ?_ λ_=>?_|with_reducible refine Kp.ite ?_ ?_)<;>simp[*]) h
@[simp] def aaI (x y:iM):Kp (zN x y):=by
 unfold zN;refine Kp.fn λσ h=>?_
 (repeat' split)<;>first|exact h|exact trivial|exact tJ.st|exact tJ.ok (h.mM rfl rfl)|exact Kp.at (by(repeat' first|with_reducible refine Kp.bind ?_ λ_=>?_|with_reducible refine Kp.ite ?_ ?_)<;>simp[*]) h
@[simp] def TT (x y:iM):Kp (rA x y):=by
 unfold rA;refine Kp.fn λσ h=>?_
 (repeat' split)<;>first|exact h|exact trivial|exact tJ.st|exact tJ.ok (h.mM rfl rfl)|exact Kp.at (by(repeat' first|with_reducible refine Kp.bind ?_ λ_=>?_|with_reducible refine Kp.ite ?_ ?_)<;>simp[*]) h
@[simp] theorem Ua (i:Nat):∀L:kZ,(∀p∈L,p.1.size<=5000/\p.2.size<=66000)->Kp (qe i L)
 |[],_=>Kp.pure _
 |a::r,hL=>by
  intro σ h;have g:=Ua i r (λp q=>hL p (rj _ q));unfold qe;split
  .trivial
  .rename_i e m;split
   .exact g σ h
   .split
    .simp[tJ]
    .rename_i o;refine g _ (h.set ?_);have⟨a1,a2,a3⟩:=h.el m;have:=h.1
     grind[MK]
@[simp] def afS (i:Nat) (t:fZ) (a:TG t):Kp (wX i t):=by
 intro σ h;unfold wX;split
 .exact Ua i _ a.fX σ h
 .trivial
@[simp] def IJ (i:Nat):Kp (kH i):=by
 intro σ h;unfold kH;split
 .rename_i e a;split
  .trivial
  .exact tJ.ok (NG.add h (MK.kids (h.el a) rfl rfl))
 .trivial
@[simp] theorem aa4 (n:Nat):Kp (F0 n):=by
 unfold F0;refine Kp.fn λσ h=>?_
 grind[tJ]
@[simp] def Rl (n:Nat):Kp (qW n):=by intro σ h;exact TT _ _ σ h
@[simp] def VW (j:Nat):Kp (me j):=by
 intro σ h;unfold me;split
 .trivial
 .rename_i m a;split
  .exact h
  .split
   .trivial
   .rename_i o g;split
    .refine tJ.ok (NG.set (NG.set h ?_) ?_);exact MK.kids (h.el g) rfl rfl;exact MK.kids (h.el a) rfl rfl
    .trivial
@[simp] def aeI (pl:Nat×Nat) (k:Nd):Kp (FC pl k):=by
 cases k with
 |el j=>simp[FC]
 |tx j=>simp[FC]
 |cm j=>simp[FC]
 |dt j=>simp[FC]
@[simp] theorem abg (n:Nat):Kp (FU n):=by
 unfold FU;refine Kp.fn λσ h=>?_
 grind[tJ]
@[simp] def Hr (a:Nat->fZ->M Unit) (t:fZ) (g:C8 a) (m:TG t):Kp (kq a t):=λσ h=>g _ _ m σ h
@[simp] def Rc (pl:Nat×Nat) (nd:Cd) (k:Nat->Nd) (a:MK nd):Kp (oT pl nd k):=λσ h=>aaE _ _ _ (h.add a)
@[simp] def OP (a:fN) (own:Bool) (fX:kZ) (g:a.size<=5000) (o:fX.length<=16) (m:∀p∈fX,p.1.size<=5000/\p.2.size<=66000):Kp (sW a own fX):=by
 intro σ h;unfold sW;split
 .split
  .exact tJ.ok (NG.pi h (n:= .el _) ⟨g,o,m⟩ _)
  .trivial
 .exact tJ.ok (NG.add h (n:= .el _) ⟨g,im _,λ_ q=>by cases q⟩)
@[simp] def Nn:Kp (ph):=by intro σ h;exact Qv _ σ h
@[simp] def SN:Kp (pushHead):=by intro σ h;exact acw _ σ h
@[simp] def acp (a:Nat->fZ->M Unit) (t:fZ) (g:C8 a) (h:TG t):Kp (uv a t):=Kp.bind SN λ_=>Kp.bind (g _ _ h) λ_=>Kp.bind Nn λ_=>Kp.pure _
@[simp] def aeW (of:fN) (pl:Bool):Kp (Nv of pl):=aa7 λ_=>⟨rfl,rfl⟩
@[simp] def ae0:Kp (yR):=by intro σ h;unfold yR;split;exact h;exact Vf σ h
@[simp] def ZA (a:Nat->fZ->M Unit) (t:fZ) (g:C8 a) (h:TG t):Kp (tZ a t):=Kp.bind (Kp.wj (λ_=>rfl) (λ_=>rfl)) λ_=>Kp.bind (g _ _ h) λ_=>Kp.bind (Kp.wj (λ_=>rfl) (λ_=>rfl)) λ_=>Kp.pure _
@[simp] def aeL (t:fZ):Kp (oK t):=by
 unfold oK;split
 .refine Kp.ite (Kp.pure _) (Kp.fn λσ h=>?_);split
  .exact tJ.ok (h.mM rfl rfl)
  .trivial
 simp
def aaL (x:Nat×Nat×fN):TG (qh x):=⟨im _,im _,(λ_ a=>by cases a),(λ_ h=>by cases h),(λ_ _ h=>by cases h)⟩
@[simp] def Gu (a:Nat->fZ->M Unit) (g:C8 a):∀h,Kp (uw a h)
 |[]=>Kp.pure _
 |x::r=>Kp.bind (ZA a _ g (aaL x)) λ_=>Gu a g r
@[simp] def ae6:Kp (xX):=aa7 λ_=>⟨rfl,rfl⟩
def My:Ru->Bool
 | .mh _ name _=>decide (name.size<=5000)
 | .GZ r=>My r
 |_=>true
def dG (sp:lM):Bool:=My sp.blank&&My sp.jq&&My sp.gm&&My sp.gP&&My sp.il&&My sp.jj&&My sp.jG&&My sp.gN&&((sp.start.getD []).all λp=>My p.2)&&((sp.stop.getD []).all λp=>My p.2)
def abF:∀a∈wo,dG a=true:=List.all_eq_true.1 (by rfl)
theorem UM:∀(R:List (List fN×Ru)) (k:fN) (r:Ru),(R.all λp=>My p.2)=true->oB R k=some r->My r=true
 |[],_,_,_,h=>by cases h
 |p::R,k,r,hR,h=>by
  rw[List.all_cons,rl]at hR;unfold oB at h;split at h
  .grind
  .exact UM R k r hR.2 h
def tz:∀L:List Ru,(∀r∈L,My r=true)->My (jD L)=true
 |[],_=>rfl
 |x::r,h=>by
  have a:=h x (xl ..);cases x with
  |nil=>exact tz r (λy g=>h y (rj _ g))
  |_=>exact a
def Ud (R:Option (List (List fN×Ru))) (k:fN) (h:((R.getD []).all λp=>My p.2)=true):My (AK R k)=true:=by
 cases R with
 |none=>rfl
 |some R=>
  show My ((oB R k).getD .nil)=true;cases hq:oB R k with
  |none=>rfl
  |some r=>exact UM R k r h hq
theorem Zt {sp : lM} (h:dG sp=true) (t:fZ):My (jI sp t)=true:=by
 unfold dG at h;simp only[rl]at h;have⟨⟨⟨⟨⟨⟨⟨⟨⟨h1,h2⟩,h3⟩,h4⟩,h5⟩,h6⟩,h7⟩,h8⟩,h9⟩,h10⟩:=h;unfold jI;split
 .split
  .exact tz _ (by grind)
  .exact tz _ (by grind)
 .exact tz _ (by grind)
 .exact tz _ (by grind)
 .exact tz _ (by simp[Ud _ _ h9,h6,h8])
 .exact tz _ (by simp[Ud _ _ h10,h7,h8])
 .exact tz _ (by grind)
 .exact tz _ (by grind)
@[simp] def Dc (a:M (Nat×Nat)) (t:fZ) (g:Kp a) (m:TG t):Kp (nH a t):=by
 unfold nH;split
 .rename_i s h;exact Kp.bind g λ_=>Kp.bind (Rc _ _ _ (m.cm s h)) λ_=>Kp.pure _
 simp
@[simp] def eN:(∀(x:iM),Kp (afr x)/\Kp (A8 x)/\Kp (Cs x)/\Kp (lh x))/\Kp yd/\Kp IC/\Kp zy/\Kp ut/\Kp Bm/\Kp zp/\Kp Jw/\Kp yg/\Kp mG/\Kp vX/\(∀(x y:iM),Kp (qp x y)/\Kp (qt x y))/\(∀(s:fN),Kp (uU s))/\(∀(f:Nat),Kp (ahead f))/\(∀(a:Nat->fZ->M Unit) (t:fZ) (q:C8 a) (g:TG t),Kp (ly a t)/\Kp (zu a t)/\Kp (wY a t)/\Kp (qx a t))/\(∀(t:fZ) (g:TG t),Kp (oM t)/\Kp (qv t))/\(∀(t:fZ),Kp (yE t))/\(∀(o:List fN) (m:Nat),Kp (sd o m)):=by
 (repeat' first|with_reducible intro _|with_reducible apply And.intro)<;>delta afr yd A8 Cs qp qt lh IC uU ahead ly oM qv zy zu yE ut Bm zp Jw wY qx sd yg mG vX<;>(repeat' first|with_reducible refine Kp.bind ?_ λ_=>?_|with_reducible refine Kp.ite ?_ ?_)<;>first|(simp[*];done)|(refine Kp.fn λσ h=>?_;(repeat' split)<;>first|exact h|exact trivial|exact tJ.st|exact tJ.ok (h.mM rfl rfl)|exact Kp.at (by(repeat' first|with_reducible refine Kp.bind ?_ λ_=>?_|with_reducible refine Kp.ite ?_ ?_)<;>simp[*]) h)
@[simp] def ND (i:Nat):Kp (jf i):=Kp.same (λ_ _ _ h=>pn h) (λσ c p=>qL _ σ c p)
@[simp] def aeC (i:Nat):Kp (mu i):=Kp.same (λ_ _ _ h=>Cf h) (λσ c p=>zY _ σ c p)
@[simp] def aax:Kp (jN):=Kp.same (λ_ _ _ h=>oN h) (λσ c p=>wH σ c p)
@[simp] def agn (i:Nat):Kp (N4 i):=by
 intro σ h;unfold N4;dsimp only;split
 .refine Kp.at ?_ h;simp[*]
 .refine Kp.at ?_ h;simp[*]
@[simp] def UH (d:Nat):∀a,Kp (yy d a)
 |[]=>Kp.pure _
 |k::r=>Kp.bind (ND _) λ_=>Kp.bind (aeI _ _) λ_=>UH d r
@[simp] def ad0 (b d:Nat):Kp (handOver b d):=by
 intro σ h;unfold handOver;split
 .trivial
 .split
  .trivial
  .refine Kp.at (Kp.bind (UH _ _) λ_=>Kp.fn λm a=>?_) h;split
   .rename_i o g;exact tJ.ok (NG.set a (MK.kids (a.el g) rfl rfl))
   .trivial
@[simp] def Mh (f g:Nat):∀n c last a,Kp (mn f g n c last a)
 |0,_,_,_=>Kp.pure _
 |n+1,c,last,a=>by
  have o:=λc last a=>Mh f g n c last a;unfold mn;refine Kp.bind (abg _) λe=>Kp.ite (Kp.pure _) (Kp.bind (Kp.ite (Zg _) (Kp.pure _)) λ_=>Kp.fn λσ h=>?_)
  by_cases m:some e∉σ.act
  .rw[fU m];exact Kp.at (Kp.bind (Qv _) λ_=>o _ _ _) h
  .rw[gn m];exact Kp.at (Kp.bind (IJ _) λ_=>Kp.bind (aaI _ _) λ_=>Kp.bind (TT _ _) λ_=>Kp.bind (VW _) λ_=>Kp.bind (ND _) λ_=>Kp.bind (abN _ _) λ_=>o _ _ _) h
@[simp] def afE (f a:Nat):Kp (ww f a):=λσ h=>Mh _ _ _ _ _ _ σ h
@[simp] def Yv:Kp (Cv):=by
 simp[Cv]
@[simp] def Xz (t:fZ) (g:TG t):Kp (ox t):=by
 unfold ox;split
 .rename_i n q a;exact Kp.bind Yv λ_=>Kp.bind (Rc _ _ _ (g.dt n q a)) λ_=>by simp
 .simp
@[simp] def Kg (own:Bool) (fX:kZ) (g:fX.length<=16) (a:∀p∈fX,p.1.size<=5000/\p.2.size<=66000):Kp (rF own fX):=by
 unfold rF;refine Kp.bind (OP _ _ _ (by decide) g a) λ_=>?_
 (repeat' first|with_reducible refine Kp.bind ?_ λ_=>?_|with_reducible refine Kp.ite ?_ ?_)<;>simp[*]
@[simp] def ade (t:fZ) (a:TG t):Kp (yw t):=Kp.bind (Kg _ _ a.len a.fX) λ_=>Kp.pure _
@[simp] def adi:Kp (rF false []):=Kg _ _ (by decide) (λ_ a=>by cases a)
@[simp] theorem R7:Kp qo:=by
 unfold qo;refine Kp.fn λσ h=>?_;split
 all_goals grind[tJ,jf]
@[simp] def eM:(∀(i:Nat),Kp (placeFor i))/\Kp zi/\Kp Bn/\Kp zl/\Kp mx/\Kp ra/\Kp EJ/\Kp iS/\(∀(a:Nat->fZ->M Unit) (t:fZ) (g:C8 a) (m:TG t),Kp (sG a t))/\(∀(t:fZ),Kp (yz t)):=by
 (repeat' first|with_reducible intro _|with_reducible apply And.intro)<;>delta placeFor zi sG Bn zl yz mx ra EJ iS<;>(repeat' first|with_reducible refine Kp.bind ?_ λ_=>?_|with_reducible refine Kp.ite ?_ ?_)<;>first|(simp[*];done)|(refine Kp.fn λσ h=>?_;(repeat' split)<;>first|exact h|exact trivial|exact tJ.st|exact tJ.ok (h.mM rfl rfl)|exact Kp.at (by simp) h)
@[simp] def Yl:Kp (lD):=by
 unfold lD;refine Kp.fn λσ h=>?_
 (repeat' split)<;>first|exact h|exact trivial|exact tJ.st|exact tJ.ok (h.mM rfl rfl)|exact Kp.at (by simp) h
@[simp] def WS (j:Nat):Kp (lG j):=by
 unfold lG
 (repeat' first|with_reducible refine Kp.bind ?_ λ_=>?_|with_reducible refine Kp.ite ?_ ?_)<;>simp[*]
@[simp] theorem uB (a:fN) (g:a.size<=5000):Kp (jP a):=by
 unfold jP
 simp_all
@[simp] theorem RQ (t:fZ) (a:TG t):Kp (iZ t):=by
 unfold iZ
 simp_all
@[simp] def Oe (t:fZ):Kp (jQ t):=by
 simp[jQ]
@[simp] def ZX:∀k n,Kp (GP k n)
 |0,_=>Kp.pure _
 |k+1,n=>by
  have a:=λn=>ZX k n;unfold GP;refine Kp.bind (aa4 _) λ_=>Kp.bind (IJ _) λ_=>Kp.bind (WS _) λ_=>Kp.bind (Rl _) λ_=>a _
@[simp] def aaz:Kp lA:=λσ h=>ZX _ _ σ h
@[simp] def Jq (own:Bool) (fX:kZ) (g:fX.length<=16) (a:∀p∈fX,p.1.size<=5000/\p.2.size<=66000):Kp (rJ own fX):=by
 unfold rJ;refine Kp.bind (OP _ _ _ (by decide) g a) λ_=>?_
 (repeat' first|with_reducible refine Kp.bind ?_ λ_=>?_|with_reducible refine Kp.ite ?_ ?_)<;>simp[*]
@[simp] def adf (t:fZ) (a:TG t):Kp (yF t):=Kp.bind (Jq _ _ a.len a.fX) λ_=>Kp.pure _
@[simp] def acX:Kp (rJ false []):=Jq _ _ (by decide) (λ_ a=>by cases a)
@[simp] def abA:Kp (jP fM):=uB _ (by decide)
@[simp] def aeY:Kp (jP mQ):=uB _ (by decide)
@[simp] def adM:Kp (jP jk):=uB _ (by decide)
@[simp] def NQ (t:fZ) (a:TG t):Kp (mL t):=by
 unfold mL
 (repeat' first|with_reducible refine Kp.bind ?_ λ_=>?_|with_reducible refine Kp.ite ?_ ?_)<;>simp[*]
@[simp] def F7:∀a,Kp (tP a)
 |[]=>Kp.pure _
 |x::r=>Kp.bind (Oe _) λ_=>F7 r
@[simp] def Ow (a:Nat->fZ->M Unit) (g:C8 a):Kp (qB a):=by
 intro σ h;unfold qB;split
 .exact Gu a g _ σ h
 .exact F7 _ σ h
@[simp] def Xv (a g:Nat->fZ->M Unit) (t:fZ) (h:C8 a) (m:C8 g) (o:TG t):Kp (ot a g t):=
 Kp.bind (Ow a h) λ_=>Kp.bind (Kp.wj (λ_=>rfl) (λ_=>rfl)) λ_=>Kp.bind (Hr g t m o) λ_=>Kp.pure _
@[simp] def abf (g:Nat) (own:Bool) (t:fZ) (a:TG t):Kp (tw g own t):=by
 unfold tw;exact Kp.ite (Dc _ _ Yl a) (Kp.ite (Dc _ _ R7 a) (Kp.ite (Dc _ _ (ND _) a) Kp.stuck))
@[simp] def eK:(∀(t:fZ) (o:TG t),Kp (lp t)/\Kp (ln t)/\Kp (tV t)/\Kp (nG t)/\Kp (wJ t)/\Kp (ob t)/\Kp (uc t)/\Kp (sr t)/\Kp (pz t)/\Kp (lT t)/\Kp (qY t)/\Kp (jO t)/\Kp (je t))/\(∀(f g:Nat),Kp (tj f g))/\(∀(a:Nat->fZ->M Unit) (t:fZ) (x:C8 a) (o:TG t),Kp (sI a t)/\Kp (nA a t)/\Kp (o9 a t)/\Kp (DU a t))/\(∀(t:fZ) (u:Bool) (o:TG t),Kp (oe t u))/\Kp sM/\Kp RO/\Kp uY/\(∀(q:List fN) (m:Nat),Kp (lc q m))/\(∀(t:fZ),Kp (pk t)):=by
 (repeat' first|with_reducible intro _|with_reducible apply And.intro)<;>delta lp ln tj sI nA tV o9 oe DU nG wJ ob uc sr sM RO uY pz lT lc qY pk jO je<;>(repeat' first|with_reducible refine Kp.bind ?_ λ_=>?_|with_reducible refine Kp.ite ?_ ?_)<;>first|(simp[*];done)|(refine Kp.fn λσ h=>?_;(repeat' split)<;>first|exact h|exact trivial|exact tJ.st|exact tJ.ok (h.mM rfl rfl)|exact Kp.at (by(repeat' first|with_reducible refine Kp.bind ?_ λ_=>?_|with_reducible refine Kp.ite ?_ ?_)<;>simp[*]) h)
@[simp] def QB (s:fN):Kp (nw s):=by
 unfold nw;refine Kp.fn λσ h=>?_
 (repeat' split)<;>first|exact h|exact trivial|exact tJ.st|exact tJ.ok (h.mM rfl rfl)|exact Kp.at (by simp) h
@[simp] def XF (s:fN):∀n,Kp (sY s n)
 |0=>Kp.pure _
 |n+1=>Kp.bind (QB _) λ_=>Kp.ite (XF s n) (Kp.pure _)
@[simp] def eJ:(∀(t:fZ) (g:TG t),Kp (sL t)/\Kp (iE t)/\Kp (us t)/\Kp (oI t)/\Kp (xq t)/\Kp (pc t)/\Kp (pa t)/\Kp (qu t)/\Kp (o0 t)/\Kp (lB t))/\(∀(s:fN),Kp (xF s))/\(∀(a:Nat->fZ->M Unit) (t:fZ) (m:C8 a) (g:TG t),Kp (kF a t))/\Kp tW/\Kp endCell:=by
 (repeat' first|with_reducible intro _|with_reducible apply And.intro)<;>delta sL iE xF us oI xq pc pa qu o0 kF tW endCell lB<;>(repeat' first|with_reducible refine Kp.bind ?_ λ_=>?_|with_reducible refine Kp.ite ?_ ?_)<;>first|(simp[*];done)|(refine Kp.fn λσ h=>?_;(repeat' split)<;>first|exact h|exact trivial|exact tJ.st|exact tJ.ok (h.mM rfl rfl)|exact Kp.at (by simp) h)
@[simp] def XC {f : Nat} {b:M Bool} (h:DZ f=some b):Kp b:=by
 unfold DZ at h
 repeat' (split at h)
 all_goals (cases h<;>simp)
@[simp] def eI:(∀(t:fZ) (a:TG t),Kp (pK t)/\Kp (qQ t)/\Kp (tY t))/\(∀(t:fZ),Kp (pM t)):=by
 (repeat' first|with_reducible intro _|with_reducible apply And.intro)<;>delta pK qQ tY pM<;>(repeat' first|with_reducible refine Kp.bind ?_ λ_=>?_|with_reducible refine Kp.ite ?_ ?_)<;>first|(simp[*];done)|(refine Kp.fn λσ h=>?_;(repeat' split)<;>first|exact h|exact trivial|exact tJ.st|exact tJ.ok (h.mM rfl rfl)|exact Kp.at (by(repeat' first|with_reducible refine Kp.bind ?_ λ_=>?_|with_reducible refine Kp.ite ?_ ?_)<;>simp[*]) h)
@[simp] theorem eL:(∀(t:fZ) (a:TG t),Kp (sD t)):=by
 (repeat' first|with_reducible intro _|with_reducible apply And.intro)<;>delta sD<;>(simp_all)<;>first|(simp[*];done)|(refine Kp.fn λσ h=>?_;(repeat' split)<;>first|exact h|exact trivial|exact tJ.st|exact tJ.ok (h.mM rfl rfl)|exact Kp.at (by(repeat' first|with_reducible refine Kp.bind ?_ λ_=>?_|with_reducible refine Kp.ite ?_ ?_)<;>simp[*]) h)
@[simp] def abc (h:Bool) (a g:Nat->fZ->M Unit) (t:fZ) (f:Nat) (m:C8 a) (o:C8 g) (q:TG t):Kp (RA h a g t f):=by
 unfold RA
 (repeat' with_reducible refine Kp.ite ?_ ?_)<;>simp[*]
@[simp] def PU (x:Bool) (g a:Nat->fZ->M Unit) (t:fZ) (y:C8 g) (q:C8 a) (o:TG t):∀r,My r=true->Kp (nD x g a r t)
 | .nil,_=>Kp.stuck
 | .nothing,_=>Kp.pure _
 | .gz f,_=>abc x g a t f y q o
 | .nJ m,_=>Kp.ite (q _ _ o) Kp.stuck
 | .gm pf own,_=>abf pf own t o
 | .ahead f,_=>by
  show Kp (match DZ f with|some b=>x9 a b t|none=>stuck)
  cases hb:DZ f with
  |none=>simp
  |some b=>exact Kp.bind (XC hb) λ_=>Kp.ite (Kp.bind (Hr a t q o) λ_=>Kp.pure _) (Kp.pure _)
 | .ends f,_=>by
  show Kp (match DZ f with|some b=>Ef b|none=>stuck)
  cases hb:DZ f with
  |none=>simp
  |some b=>exact Kp.bind (XC hb) λ_=>Kp.pure _
 | .GZ r,h=>by
  have z:=PU x g a t y q o r h;intro σ u;show tJ (KJ (nD x g a r t) t σ);unfold KJ;split
  .exact z σ u
  .exact u
 | .po ks m,_=>Kp.ite (Kp.bind (J4 _) λ_=>Kp.bind (RQ t o) λ_=>Kp.bind (MG _) λ_=>Kp.pure _) Kp.stuck
 | .mh ks name m,h=>Kp.ite (Kp.bind (J4 _) λ_=>Kp.bind (uB _ (of_decide_eq_true h)) λ_=>Kp.bind (MG _) λ_=>Kp.bind (Hr a t q o) λ_=>Kp.pure _) Kp.stuck
 | .item ks,_=>Kp.bind (ZM _ _) λ_=>Kp.bind (NQ t o) λ_=>Kp.pure _
@[simp] theorem NP:∀(n:Nat) (g:Bool) (m:Nat) (t:fZ),TG t->Kp (gD g n m t)
 |0,_,_,_,_=>Kp.stuck
 |n+1,g,m,t,h=>by
  by_cases o:t.k= .lost
  .have e:gD g (n+1) m t=stuck:=by
    have⟨a,b,k,fX⟩:=t;cases o;rfl
   simp_all
  .rw[I8 g n m t o];unfold cY;cases hs:wo[m]? with
   |none=>simp
   |some sp=>exact PU g _ _ t (λm t h=>NP n true m t h) (λm t h=>NP n g m t h) h _ (Zt (abF sp (tK hs)) t)
@[simp] def UD (n:Nat) (t:fZ) (g:TG t):Kp (ql (gD false n) t):=by
 have o:Kp (α:=Unit) (λσ:Ab=>if σ.behind&&ku t.chars BQ then qI.ok () {σ with behind:=false,gp:=t.a} else kq (gD false n) t {σ with behind:=false,gp:=t.a}):=by
  refine Kp.fn λσ h=>?_;have q:NG {σ with behind:=false,gp:=t.a}:=h.mM rfl rfl;split
  .exact q
  .exact Hr _ t (λm t g=>NP n false m t g) g _ q
 have⟨a,b,k,fX⟩:=t;cases k with
 |lost=>simp[ql]
 |_=>exact o
def cZ:RV->Prop
 | .RY nm L=>nm.size<=5000/\L.length<=16/\∀p∈L,p.1.size<=5000/\p.2.size<=66000
 | .fin nm L=>nm.size<=5000/\L.length<=16/\∀p∈L,p.1.size<=5000/\p.2.size<=66000
 | .TJ t=>t.size<=5000
 | .cj nm _=>nm.size<=5000
 |_=>True
def XD:zG->Prop
 | .stop=>True
 | .tok k _=>cZ k
def yW (h:s.size<=1024):(nF s).size<=5000:=by have:=wN s;omega
def x7 (s:fN) (a b:Nat):(s.extract a b).size<=s.size:=by simp[ByteArray.size_extract];omega
def UY (a:R.cs.size<=1024) (ps:Nat):(xh R ps).size<=5000:=yW (by rw[sB];have:=x7 R.cs ps (xP R ps);omega)
def VJ (a:R.cs.size<=1024) (ps:Nat):(BB R ps).size<=5000:=yW (by rw[sB];have:=x7 R.cs ps (jU R ps);omega)
def aex (a:R.cs.size<=1024) (ps:Nat):(Pg R ps).size<=5000:=yW (by rw[sB];have:=x7 R.cs (cg R ps) (Fl R ps);omega)
def WM (h:∀x t,look x=some t->t.size<=16) (q:R.cs.size<=1024) (ps:Nat):(rW look lg R ps).size<=66000:=by
 unfold rW;split
 .have a:=wN ⟨(vp look lg (mF R (mg R (mg R ps+1)))).toArray⟩;have g:=Ay (lg:=lg) h (mF R (mg R (mg R ps+1)));have m:=Cu (R:=R) (ps:=mg R (mg R ps+1));have o:(ByteArray.mk (vp look lg (mF R (mg R (mg R ps+1)))).toArray).size=(vp look lg (mF R (mg R (mg R ps+1)))).length:=by simp[ByteArray.size]
  omega
 .decide
theorem trimSuffix_le (s p:List UInt8):(Lib.trimSuffix s p).length<=s.length:=by unfold Lib.trimSuffix;grind
def LL (s:fN):(zq s).size<=s.size:=by
 have e:∀l:List UInt8,(ByteArray.mk l.toArray).size=l.length:=λl=>by rfl
 have e1:s.size=s.data.toList.length:=MQ s;unfold zq;split
 .rw[e,e1];exact trimSuffix_le _ _
 split
 .rw[e,e1];exact trimSuffix_le _ _
 split
 .rw[e,e1];exact trimSuffix_le _ _
 simp
def Rs (R:RC) (a:Nat):∀(n i:Nat),R.cs.size - i<=n->(pG R a i).size<=R.cs.size
 |0,i,h=>by
  rw[pG.eq_1 R a i,gn (by omega)];exact jC (LL _) (x7 _ _ _)
 |n+1,i,h=>by
  rw[pG.eq_1 R a i];split
  .split
   .exact x7 _ _ _
   .split
    .exact x7 _ _ _
    .exact Rs R a n (i+1) (by omega)
  .exact jC (LL _) (x7 _ _ _)
def Sg (R:RC) (ps:Nat):(nI R ps).size<=R.cs.size:=by
 unfold nI;split
 .exact im _
 split
 .exact im _
 .exact Rs R _ _ _ (gr _)
theorem VY (h:∀x t,look x=some t->t.size<=16) (g:R.cs.size<=1024) {L : kZ} (m:∀p∈L,p.1.size<=5000/\p.2.size<=66000):∀p∈qR R look lg L ps,p.1.size<=5000/\p.2.size<=66000:=by
 unfold qR vu;split
 .exact m
 .intro p o;rcases List.mem_append.1 o with a|a
  .grind
  .obtain rfl:=List.mem_singleton.1 a;exact⟨VJ g _,WM h g _⟩
theorem Mb {L : kZ} (h:R.cs.size<=ps):lf R look lg L ps= .lost:=by
 have a:=sF (R:=R) (ps:=ps)
 grind[lf]
theorem abL (q:∀x t,look x=some t->t.size<=16) (z:R.cs.size<=1024) (E:R.at_<=16):∀(n:Nat) {L:kZ} {ps m:Nat} {g:kZ},R.cs.size - ps<=n->lf R look lg L ps= .whole m g->L.length<=16->(∀p∈L,p.1.size<=5000/\p.2.size<=66000)->g.length<=16/\∀p∈g,p.1.size<=5000/\p.2.size<=66000:=by
 intro n
 induction n with
 |zero=>
  intro L ps m g y a;rw[Mb (by omega)]at a;cases a
 |succ n ih=>
  intro L ps m g y a G o;have A:=sF (R:=R) (ps:=ps);rw[lf]at a;split at a
  .split at a
   .grind
   .split at a
    .cases a
    .rename_i u _ h;have C:=wg (R:=R) (ps:=iN R ps);have D:=ye (R:=R) (ps:=jU R (iN R ps))
     by_cases F:jU R (iN R ps)=R.cs.size
     .rw[Mb (by omega)]at a;cases a
     .refine ih (by omega) a ?_ (VY q z o);unfold yY at h;unfold qR vu
      grind
  grind
theorem adt (o:∀x t,look x=some t->t.size<=16) (u:R.cs.size<=1024) (g:R.at_<=16) {a : fN->kZ->RV} {nm : fN} (q:∀L,L.length<=16->(∀p∈L,p.1.size<=5000/\p.2.size<=66000)->cZ (a nm L)):XD (sA R a nm (lf R look lg [] ps)):=by
 cases h:lf R look lg [] ps with
 |stop=>trivial
 |lost=>trivial
 |whole m L=>
  have:=abL o u g _ (gr _) h (im _) (by simp)
  grind[XD,sA]
def acK {g : Nat} (q:∀x t,look x=some t->t.size<=16) (a:R.cs.size<=1024) (o:R.at_<=16):XD (lL R look lg g ps):=by
 unfold lL;split
 .exact adt q a o (λL h m=>⟨UY a _,h,m⟩)
 split
 .trivial
 split
 .trivial
 .exact yW (jC (x7 _ _ _) a)
def aen {m : Nat} (h:∀x t,look x=some t->t.size<=16) (a:R.cs.size<=1024) (g:R.at_<=16):XD (rX R look lg m ps):=by
 unfold rX;split
 .exact adt h a g (λL o q=>⟨UY a _,o,q⟩)
 split
 .exact acK h a g
 split
 .exact yW (jC (Sg _ _) a)
 split
 .exact aex a _
 split
 .exact yW (jC (x7 _ _ _) a)
 split
 .exact yW (jC (x7 _ _ _) a)
 .trivial
def Zh (g:∀x t,look x=some t->t.size<=16) (h:R.cs.size<=1024) (a:R.at_<=16):XD (ke R look lg ps):=by
 unfold ke;split
 .trivial
 split
 .split
  .exact aen (R:=uh R ps) g h a
  .trivial
 .unfold yP;split<;>trivial
def cZ.tg {k : RV} (h:cZ k) (a b:Nat):TG (pC a b k):=by
 cases k with
 |RY nm L=>exact⟨h.1,h.2.1,h.2.2,(λ_ h=>by cases h),(λ_ _ h=>by cases h)⟩
 |fin nm L=>exact⟨h.1,h.2.1,h.2.2,(λ_ h=>by cases h),(λ_ _ h=>by cases h)⟩
 |TJ t=>exact⟨im _,im _,(λ_ g=>by cases g),(λs e=>by cases e;exact h),(λ_ _ h=>by cases h)⟩
 |cj n q=>exact⟨im _,im _,(λ_ g=>by cases g),(λ_ h=>by cases h),(λn q e=>by cases e;exact h)⟩
 |Xr=>exact⟨im _,im _,(λ_ g=>by cases g),(λ_ h=>by cases h),(λ_ _ h=>by cases h)⟩
 |Y7 t=>exact⟨im _,im _,(λ_ g=>by cases g),(λ_ h=>by cases h),(λ_ _ h=>by cases h)⟩
 |lost=>exact⟨im _,im _,(λ_ g=>by cases g),(λ_ h=>by cases h),(λ_ _ h=>by cases h)⟩
theorem Qq (y:∀x t,look x=some t->t.size<=16) (z:R.cs.size<=1024) (q:R.at_<=16):∀(n ps:Nat) (σ:Ab) (L:List Sp),NG σ->∀c p,nc R look lg cut n ps σ L= .stop c p->c≠0:=by
 intro n
 induction n with
 |zero=>simp[nc]
 |succ n ih=>
  intro ps σ L o c p h;rw[nc]at h;have g:=Zh (R:=QR R σ.mV σ.iA) (look:=look) (lg:=lg) (ps:=ps) y z q;revert h g;cases ke (QR R σ.mV σ.iA) look lg ps with
  |stop=>grind
  |tok k m=>
   intro h g;dsimp only at h;have a:=UD wu _ (cZ.tg g (cut ps) (cut m)) (wO R σ ps (pC (cut ps) (cut m) k)) (o.mM rfl rfl);revert h a;cases ql (gD false wu) (pC (cut ps) (cut m) k) (wO R σ ps (pC (cut ps) (cut m) k))with
   |stuck=>simp
   |stop c p=>intro h a;cases h;exact a
   |ok u σ2=>
    intro h a;dsimp only at h;split at h
    .cases h
    .exact ih _ _ _ a _ _ h
def WQ (A:∀x t,look x=some t->t.size<=16) (C:R.cs.size<=1024) (z:R.at_<=16):∀(n ps:Nat) (σ:Ab) (L:List Sp),NG σ->∀a y,nc R look lg cut n ps σ L= .done a y->NG a:=by
 intro n
 induction n with
 |zero=>simp[nc]
 |succ n ih=>
  intro ps σ L q a y h;rw[nc]at h;have o:=Zh (R:=QR R σ.mV σ.iA) (look:=look) (lg:=lg) (ps:=ps) A C z;revert h o;cases ke (QR R σ.mV σ.iA) look lg ps with
  |stop=>simp
  |tok k m=>
   intro h o;dsimp only at h;have g:=UD wu _ (cZ.tg o (cut ps) (cut m)) (wO R σ ps (pC (cut ps) (cut m) k)) (q.mM rfl rfl);revert h g;cases ql (gD false wu) (pC (cut ps) (cut m) k) (wO R σ ps (pC (cut ps) (cut m) k))with
   |stuck=>simp
   |stop c p=>simp
   |ok u σ2=>
    intro h g;dsimp only at h;split at h
    .cases h;exact g
    .exact ih _ _ _ g _ _ h
def ado {d f l a : Nat} (g:l<=16):NG (S0 d f l a):=⟨g,λn h=>by
 have e:n= .el ⟨⟨#[]⟩,[],none,[]⟩:=by
  have:n∈[Cd.el ⟨⟨#[]⟩,[],none,[]⟩]:=h;exact List.mem_singleton.1 this
 rw[e];exact⟨by decide,by decide,λ_ m=>by cases m⟩⟩
theorem Vv (d f l:Nat) (s:fN) (m:s.size<=1024) (g:l<=16) {a : Ab} (h:As d f l s= .done a L):NG a:=
 WQ (R:=rI s l .nilFunc 0) xk (by have:=DA s;grind[rI]) (by grind[rI]) _ _ _ _ (ado g) _ _ h
theorem RE (d f l:Nat) (s:fN) (g:s.size<=1024) (a:l<=16) (h:As d f l s= .stop c p):c≠0:=
 Qq (R:=rI s l .nilFunc 0) xk (by have:=DA s;grind[rI]) (by grind[rI]) _ _ _ _ (ado a) _ _ h
def GM:Tn:= .tx ⟨#[]⟩
def NH (σ:Ab):Nat->Nd->Tn
 |0,_=>GM
 |k+1,.el i=>match σ.gF i with
  |some e=> .el e.name e.gy (e.kids.map (NH σ k))
  |none=>GM
 |_+1,.tx i=>match σ.nodes[i]? with
  |some (.tx s)=> .tx s
  |_=>GM
 |_+1,.cm i=>match σ.nodes[i]? with
  |some (.cm s)=> .cm s
  |_=>GM
 |_+1,.dt i=>match σ.nodes[i]? with
  |some (.dt s)=> .dt s
  |_=>GM
def Pn (g:Nd->Tn) (f:Nd->Nd):∀a:List Nd,(∀k∈a,jo w (g k) (f k))->qO w (a.map g) (a.map f)
 |[],_=>by simp[qO]
 |k::a,h=>by
  simp only[zF,qO];exact⟨h k (xl ..),Pn g f a (λx m=>h x (rj _ m))⟩
theorem Ul {E : Env} {L : Loc} (h:Rel E L σ w) (g:jn r σ) (m:∀i,i < σ.nodes.length->r i<=B):∀(k:Nat) (a:Nd),σ.iR a=true->(∀i,a= .el i->B - r i+1 < k)->1<=k->jo w (NH σ k a) (Nd.map L.gp a)
 |0,_,_,_,h1=>absurd h1 (by omega)
 |k+1,.el i,hk,hi,_=>by
  have⟨e,he⟩:=Option.isSome_iff_exists.1 (show(σ.gF i).isSome=true from hk);have⟨a1,a2,a3⟩:=h.rP i _ (Ab.iX he);have y:=hi i rfl;show jo w (match σ.gF i with|some e=> .el e.name e.gy (e.kids.map (NH σ k))|none=>GM) (.el (L.gp i))
  rw[he];simp only[jo];refine⟨_,_,_,_,⟨a1.gR,jR a1.row (im _),a1.le,a1.UG⟩,a2,a3,?_⟩;refine Pn (NH σ k) (Nd.map L.gp) e.kids ?_;intro x o;refine Ul h g m k x (g.oq.kd i e he x o) ?_ (by omega);intro j q;subst q;have⟨ej,g1,g2⟩:=g.oq.dn i e j he (yt.2 o);have t:=g.tD.iJ j ej i g1 g2;have u:=m j (Ab.gL g1);omega
 |k+1,.tx i,hk,_,_=>by
  unfold Ab.iR at hk;show jo w (match σ.nodes[i]? with|some (.tx s)=> .tx s|_=>GM) (.tx (L.gp i))
  cases hq:σ.nodes[i]? with
  |none=>grind
  |some a=>
   cases a with
   |tx s=>simp only[jo];exact h.rP i _ hq
   |el e=>grind
   |cm s=>grind
   |dt s=>grind
 |k+1,.cm i,hk,_,_=>by
  unfold Ab.iR at hk;show jo w (match σ.nodes[i]? with|some (.cm s)=> .cm s|_=>GM) (.cm (L.gp i))
  cases hq:σ.nodes[i]? with
  |none=>grind
  |some a=>
   cases a with
   |cm s=>simp only[jo];exact h.rP i _ hq
   |el e=>grind
   |tx s=>grind
   |dt s=>grind
 |k+1,.dt i,hk,_,_=>by
  unfold Ab.iR at hk;show jo w (match σ.nodes[i]? with|some (.dt s)=> .dt s|_=>GM) (.dt (L.gp i))
  cases hq:σ.nodes[i]? with
  |none=>grind
  |some a=>
   cases a with
   |dt s=>simp only[jo];exact h.rP i _ hq
   |el e=>grind
   |tx s=>grind
   |cm s=>grind
mutual
def I3:Tn->Nat
 | .el _ _ ks=>1+cr ks
 | .tx _=>1
 | .cm _=>1
 | .dt _=>1
def cr:List Tn->Nat
 |[]=>0
 |t::ts=>I3 t+cr ts
end
def Cj (σ:Ab):Nat->Nd->List Nat
 |0,_=>[]
 |k+1,.el i=>i::(match σ.gF i with
  |some e=>e.kids.flatMap (Cj σ k)
  |none=>[])
 |_+1,_=>[]
def kl (σ:Ab) (i:Nat):Nat:=match σ.gF i with
 |some e=>e.kids.length
 |none=>0
theorem UA (f:Nd->Tn) (g:Nd->List Nat) (h:Nat->Nat):∀a:List Nd,(∀k∈a,I3 (f k)<=1+((g k).map h).sum)->cr (a.map f)<=a.length+((a.flatMap g).map h).sum
 |[],_=>by simp[cr]
 |k::a,hk=>by
  have o:=hk k (xl ..);have q:=UA f g h a (λx m=>hk x (rj _ m))
  grind[cr]
theorem XH (σ:Ab):∀(k:Nat) (a:Nd),I3 (NH σ k a)<=1+((Cj σ k a).map (kl σ)).sum
 |0,a=>by
  have e:NH σ 0 a=GM:=by cases a<;>rfl
  rw[e];simp[GM,I3]
 |k+1,.el i=>by
  show I3 (match σ.gF i with|some e=> .el e.name e.gy (e.kids.map (NH σ k))|none=>GM)<=1+((i::(match σ.gF i with|some e=>e.kids.flatMap (Cj σ k)|none=>[])).map (kl σ)).sum
  cases he:σ.gF i with
  |none=>simp[GM,I3]
  |some e=>
   have g:=UA (NH σ k) (Cj σ k) (kl σ) e.kids (λx _=>XH σ k x);have h:kl σ i=e.kids.length:=by unfold kl;rw[he]
   grind[I3]
 |k+1,.tx i=>by
  show I3 (match σ.nodes[i]? with|some (.tx s)=> .tx s|_=>GM)<=_
  split<;>simp[GM,I3]
 |k+1,.cm i=>by
  show I3 (match σ.nodes[i]? with|some (.cm s)=> .cm s|_=>GM)<=_
  split<;>simp[GM,I3]
 |k+1,.dt i=>by
  show I3 (match σ.nodes[i]? with|some (.dt s)=> .dt s|_=>GM)<=_
  split<;>simp[GM,I3]
def BJ (σ:Ab) (j:Nat):iM:=(σ.gF j).bind (·.iJ)
def N0 (σ:Ab):Nat->Nat->iM
 |0,j=>some j
 |n+1,j=>(N0 σ n j).bind (BJ σ)
def Us (σ:Ab) (n j:Nat):∀d,N0 σ (n+d) j=(N0 σ n j).bind (N0 σ d)
 |0=>by simp[N0]
 |d+1=>by
  show(N0 σ (n+d) j).bind (BJ σ)=_;rw[Us σ n j d];cases N0 σ n j<;>simp[N0]
theorem Ig (a:jn r σ) (h:BJ σ j=some p):r p < r j:=by
 unfold BJ at h;cases he:σ.gF j with
 |none=>grind
 |some e=>rw[he]at h;exact a.tD.iJ j e p he h
theorem I0 (g:jn r σ):∀(n j i:Nat),N0 σ n j=some i->r i<=r j
 |0,j,i,h=>by cases h;simp
 |n+1,j,i,h=>by
  have a:(N0 σ n j).bind (BJ σ)=some i:=h;cases hq:N0 σ n j with
  |none=>grind
  |some q=>
   rw[hq]at a;have m:=I0 g n j q hq;have o:=Ig g (show BJ σ q=some i from a);omega
theorem Hc (g:jn r σ):∀(k:Nat) (i j:Nat),j∈Cj σ k (.el i)->∃n,N0 σ n j=some i
 |0,i,j,h=>by cases h
 |k+1,i,j,h=>by
  have m:j∈i::(match σ.gF i with|some e=>e.kids.flatMap (Cj σ k)|none=>[]):=h
  rcases List.mem_cons.1 m with rfl|a
  .exact⟨0,rfl⟩
  .cases he:σ.gF i with
   |none=>grind
   |some e=>
    rw[he]at a;have⟨x,hx,hj⟩:=List.mem_flatMap.1 a;cases x with
    |el c=>
     have⟨n,hn⟩:=Hc g k c j hj;have⟨ej,g1,g2⟩:=g.oq.dn i e c he (yt.2 hx);refine⟨n+1,?_⟩;show(N0 σ n j).bind (BJ σ)=some i
     grind[BJ]
    |tx c=>cases k<;>cases hj
    |cm c=>cases k<;>cases hj
    |dt c=>cases k<;>cases hj
theorem aaT (h:jn r σ) {m d : Nat} (g:N0 σ n j=some c) (a:N0 σ m j=some d) (o:BJ σ c=some i) (t:BJ σ d=some i):c=d:=by
 have x:∀{n m c d:Nat},n < m->N0 σ n j=some c->N0 σ m j=some d->BJ σ c=some i->BJ σ d=some i->False:=by
  intro n m c d u g a o t;obtain⟨q,rfl⟩:∃q,m=(n+1)+q:=⟨m - (n+1),by omega⟩;rw[Us]at a;have e:N0 σ (n+1) j=some i:=by
   show(N0 σ n j).bind (BJ σ)=some i;rw[g];exact o
  rw[e]at a;have y:=I0 h q i d a;have z:=Ig h t;omega
 grind
def Bj (σ:Ab) (k:Nat):∀a:List Nd,a.flatMap (Cj σ k)=(ie a).flatMap (λc=>Cj σ k (.el c))
 |[]=>rfl
 | .el c::a=>by simp only[M7,ie];rw[Bj σ k a]
 | .tx c::a=>by
  have e:Cj σ k (.tx c)=[]:=by cases k<;>rfl
  simp only[M7,ie,e,rM];exact Bj σ k a
 | .cm c::a=>by
  have e:Cj σ k (.cm c)=[]:=by cases k<;>rfl
  simp only[M7,ie,e,rM];exact Bj σ k a
 | .dt c::a=>by
  have e:Cj σ k (.dt c)=[]:=by cases k<;>rfl
  simp only[M7,ie,e,rM];exact Bj σ k a
theorem Iw (g:jn r σ) (k:Nat) (q:∀c,(Cj σ k (.el c)).Nodup):∀a:List Nat,a.Nodup->(∀c∈a,BJ σ c=some i)->(a.flatMap (λc=>Cj σ k (.el c))).Nodup
 |[],_,_=>List.nodup_nil
 |c::a,hn,hp=>by
  rw[M7];rw[Ii]at hn;refine List.nodup_append.2 ⟨q c,Iw g k q a hn.2 (λd h=>hp d (rj _ h)),?_⟩;intro j t u o e;subst e;have⟨d,h,hjd⟩:=List.mem_flatMap.1 o;have⟨n,h1⟩:=Hc g k c j t;have⟨m,h2⟩:=Hc g k d j hjd;have e:=aaT g h1 h2 (hp c (xl ..)) (hp d (rj _ h))
  grind
def Iz (a:jn r σ):∀(k i:Nat),(Cj σ k (.el i)).Nodup
 |0,i=>List.nodup_nil
 |k+1,i=>by
  show(i::(match σ.gF i with|some e=>e.kids.flatMap (Cj σ k)|none=>[])).Nodup
  cases he:σ.gF i with
  |none=>simp
  |some e=>
   have h:∀c∈ie e.kids,BJ σ c=some i:=by
    intro c g;have⟨ej,g1,g2⟩:=a.oq.dn i e c he g;unfold BJ;rw[g1];exact g2
   dsimp only;rw[Bj];refine List.nodup_cons.2 ⟨?_,Iw a k (λc=>Iz a k c) _ (a.oq.nd i e he) h⟩;intro m;have⟨c,g,hj⟩:=List.mem_flatMap.1 m;have⟨n,h1⟩:=Hc a k c i hj;have o:=I0 a n i c h1;have q:=Ig a (h c g);omega
theorem LX:∀(l:List Nat) (L:List Nat),l.Nodup->(l.map (λi=>L.getD i 0)).sum<=L.sum
 |[],_,_=>by simp
 |i::l,L,hn=>by
  rw[Ii]at hn;have h:=LX l (L.set i 0) hn.2;have e:l.map (λj=>(L.set i 0).getD j 0)=l.map (λj=>L.getD j 0):=by
   apply UV;intro j m;have a:i≠j:=λe=>hn.1 (e▸m);simp[uX,List.getElem?_set,a]
  rw[e]at h;rw[zF,List.sum_cons]
  by_cases g:i < L.length
  .have o:=N3 L i L[i] 0 (by simp)
   grind
  .have q:L.getD i 0=0:=by simp[uX,List.getElem?_eq_none (Nat.le_of_not_lt g)]
   have t:L.set i 0=L:=List.set_eq_of_length_le (Nat.le_of_not_lt g)
   grind
theorem PJ (f g:Nat->Nat) (h:∀i,f i<=g i):∀l:List Nat,(l.map f).sum<=(l.map g).sum
 |[]=>by simp
 |i::l=>by
  have:=h i;have:=PJ f g h l
  grind
theorem afL {l : List Nat} (h:l.Nodup):(l.map (kl σ)).sum<=wt σ:=by
 refine jC (PJ (kl σ) (λi=>(σ.nodes.map Uj).getD i 0) (λi=>?_) l) (LX l _ h);unfold kl;split
 .rename_i e a;have g:=Ab.iX a
  grind[Uj]
 simp
def adT (a:mD σ) (k i:Nat):I3 (NH σ k (.el i))<=1+wt σ:=by
 have⟨r,hr⟩:=a;have g:=XH σ k (.el i);have h:=afL (σ:=σ) (Iz hr k i);omega
mutual
def cH (B:Nat):Tn->Prop
 | .el name fX ks=>name.size<=5000/\fX.length<=16/\(∀p∈fX,p.1.size<=5000/\p.2.size<=66000)/\dh B ks
 | .tx s=>s.size<=B
 | .cm s=>s.size<=5000
 | .dt s=>s.size<=5000
def dh (B:Nat):List Tn->Prop
 |[]=>True
 |t::ts=>cH B t/\dh B ts
end
def Ug (f:Nd->Tn):∀a:List Nd,(∀k∈a,cH B (f k))->dh B (a.map f)
 |[],_=>trivial
 |k::a,h=>⟨h k (xl ..),Ug f a (λx g=>h x (rj _ g))⟩
def acT (h:NG σ):∀(k:Nat) (g:Nd),cH (wt σ) (NH σ k g)
 |0,g=>by
  have e:NH σ 0 g=GM:=by cases g<;>rfl
  rw[e];exact im _
 |k+1,.el i=>by
  show cH (wt σ) (match σ.gF i with|some e=> .el e.name e.gy (e.kids.map (NH σ k))|none=>GM)
  cases he:σ.gF i with
  |none=>exact im _
  |some e=>
   have⟨a1,a2,a3⟩:=h.el he;exact⟨a1,a2,a3,Ug _ _ (λx _=>acT h k x)⟩
 |k+1,.tx i=>by
  show cH (wt σ) (match σ.nodes[i]? with|some (.tx s)=> .tx s|_=>GM)
  split
  .rename_i s a;exact ZJ a
  .exact im _
 |k+1,.cm i=>by
  show cH (wt σ) (match σ.nodes[i]? with|some (.cm s)=> .cm s|_=>GM)
  split
  .rename_i s a;exact h.2 _ (tK a)
  .exact im _
 |k+1,.dt i=>by
  show cH (wt σ) (match σ.nodes[i]? with|some (.dt s)=> .dt s|_=>GM)
  split
  .rename_i s a;exact h.2 _ (tK a)
  .exact im _
mutual
theorem adu (o:B<=595500) (a:fN->Bool):∀t:Tn,cH B t->(∀e∈Hf a t,zd e=true)/\vM (Hf a t)<=143000000*I3 t/\(kX (Hf a t)).length<=18*I3 t
 | .el name fX ks,h=>by
  have⟨h1,h2,h3,h4⟩:=h;have⟨g1,g2,g3⟩:=M4 o a ks h4;have q:zd (.enter name fX)=true:=by
   simp only[zd,rl,Bh,LR];exact⟨⟨h2,h3⟩,h1⟩
  have u:zd (.vA name)=true:=by simpa [zd]using h1
  unfold Hf I3;split
  .refine⟨λe g=>?_,?_,?_⟩
   .grind
   .simp[vM,OM];omega
   .simp[kX,uH];omega
  .refine⟨λe g=>?_,?_,?_⟩
   .grind
   .have e:vM (.enter name fX::(uZ a ks++[.vA name]))=(6000+16*6000000)+(vM (uZ a ks)+6000):=by simp[vM,OM]
    omega
   .have e:(kX (.enter name fX::(uZ a ks++[.vA name]))).length=(1+fX.length)+((kX (uZ a ks)).length+1):=by simp[kX,uH];omega
    omega
 | .tx s,h=>by
  have m:s.size<=B:=h;refine⟨λe g=>?_,?_,?_⟩
  .rw[List.mem_singleton.1 g];simp[zd];omega
  .simp[Hf,vM,OM,I3];omega
  .simp[Hf,kX,uH,I3]
 | .cm s,h=>by
  have m:s.size<=5000:=h;refine⟨λe g=>?_,?_,?_⟩
  .rw[List.mem_singleton.1 g];simp[zd];omega
  .simp[Hf,vM,OM,I3]
  .simp[Hf,kX,uH,I3]
 | .dt s,h=>by
  have m:s.size<=5000:=h;refine⟨λe g=>?_,?_,?_⟩
  .rw[List.mem_singleton.1 g];simp[zd];omega
  .simp[Hf,vM,OM,I3]
  .simp[Hf,kX,uH,I3]
theorem M4 (m:B<=595500) (g:fN->Bool):∀a:List Tn,dh B a->(∀e∈uZ g a,zd e=true)/\vM (uZ g a)<=143000000*cr a/\(kX (uZ g a)).length<=18*cr a
 |[],_=>⟨(λe o=>by cases o),(by simp[uZ,vM]),(by simp[uZ,kX])⟩
 |t::a,h=>by
  have⟨a1,a2,a3⟩:=adu m g t h.1;have⟨b1,b2,b3⟩:=M4 m g a h.2;unfold uZ cr;refine⟨λe o=>?_,?_,?_⟩
  .grind
  .grind[vM]
  grind[kX]
end
structure Trail (s:fN) (n:Nat) (A:Nat->Sp) (cut:Nat->Nat):Prop where
 a:∀i,i < n->(A i).a=(cut i:Int)
 b:∀i,i < n->(A i).b=(cut (i+1):Int)
 lt:∀i,i < n->cut i < cut (i+1)
 le:∀i,i<=n->cut i<=s.size
 zero:cut 0=0
 last:cut n=s.size
 kd:∀i,i < n->1<=(A i).k/\(A i).k<=6
 ch:∀i,0 < i->i < n->(A i).k=1->(A (i - 1)).k≠1
 open_:∀i,i < n->(A i).k≠1->bt s (cut i)=60
 shut:∀i,i < n->(A i).k≠1->bt s (cut (i+1) - 1)=62\/cut (i+1)=s.size
def En.kept {g m : Nat} {A : Nat->Sp} (h:En w g m n A) (t:Kept [] w w') (q:g < w.heap.size):En w' g m n A:=by
 have e:∀o,w'.cell? ⟨g,o,none⟩=w.cell? ⟨g,o,none⟩:=λo=>t.cell (p:=⟨g,o,none⟩) q (by simp);exact⟨λi a=>(e _).trans (h.c0 i a),λi a=>(e _).trans (h.c1 i a),λi a=>(e _).trans (h.c2 i a)⟩
def RR (s:fN) (g z K n:Nat) (A:Nat->Sp) (cut:Nat->Nat) (w:fO) (hA:En w g z n A) (V:g < w.heap.size) (hn:n<=140737488351232) (hs:s.size<=1024) (U:Trail s n A cut):
  Calls prog 11 #[fR s,.slice (some ⟨g,z,none⟩) n K] w λe w'=>e=gO (.bool true)/\Kept [] w w':=by
 have HA:=hA;have o:=fx U;have a3:=get_bt s;clear U;go_enter func11,ntmps11;go_wp2
 go_loopw [5,6] (λa i wr=>∃k:Nat,k<=n/\i=fK k/\a=fK (cut k)/\Kept [] w wr) (λ_ i _=>n - (intOf i).toNat)
 case atStart=>exact⟨0,im _,rfl,by rw[o.out.zero];rfl,Kept.refl _ _⟩
 case round=>
  obtain⟨k,hk,rfl,rfl,q⟩:=hrel
  by_cases m:k < n
  .have H:=HA.kept q V;have a0:=H.c0 k m;have P:=H.c1 k m;have Q:=H.c2 k m;rw[o.out.a k m]at P;rw[o.out.b k m]at Q;have S:=o.lt k m;have h2:=o.le (k+1) (by omega);have T:=o.kd k m;have N:=o.ch k;have E:=o.open_ k m;have O:=o.shut k m;have t:0 < k->wr.cell? ⟨g,z+(k - 1)*3,none⟩=some (fK (A (k - 1)).k):=λh=>H.c0 (k - 1) (by omega);obtain⟨I,y⟩:∃I,I=(A k).k:=⟨_,rfl⟩;rw[<-y]at a0 T;have u:=fx y;clear y;have C:∃d,d=cut (k+1):=⟨_,rfl⟩;have⟨d,C⟩:=C;rw[<-C]at S h2 Q;have G:=fx C;clear C;generalize hc:cut k=c at P S E|-;have⟨h4,h5⟩:=T;have J:Hid (Kept [] w (wr.alloc (.cells #[fK I,fK c,fK d] 53))):=q.alloc _
   by_cases x:I=1
   .subst x
    by_cases D:0 < k
    .have X:=t D;have F:=N D m u.symm;generalize (A (k - 1)).k=kp at X F;have a4:(kp==1)=false:=beq_eq_false_iff_ne.2 F;obtain⟨j,rfl⟩:∃j,k=j+1:=⟨k - 1,by omega⟩;rw[show j+1 - 1=j from rfl]at X;have hz:g < wr.heap.size:=lz V q.size;go_wp2;go_roundw
     case rel=>exact⟨j+1+1,by omega,by go_num,by rw[G.out],J⟩
     case measure=>simp[intOf];omega
    .go_wp2;go_roundw
     case rel=>exact⟨k+1,by omega,by go_num,by rw[G.out],J⟩
     case measure=>simp[intOf];omega
   .have o1:bt s c=60:=E (by rw[<-u.out];exact x);have Y:bt s (d - 1)=62\/d=s.size:=by rw[G.out];exact O (by rw[<-u.out];exact x)
    by_cases Z:bt s (d - 1)=62
    clear Y
    rotate_left
    have o4:d=s.size:=by rcases Y with h|h;exact absurd h Z;exact h
    subst o4;have o5:(bt s (s.size - 1) != 62)=true:=by rw[bne_iff_ne];exact Z
    all_goals
     go_wp2;go_roundw
     case rel=>exact⟨k+1,by omega,by go_num,by rw[G.out],J⟩
     case measure=>simp[intOf];omega
  .have he:cut k=s.size:=by rw[show k=n by omega];exact o.last
   rw[he];go_wp2;go_ret;exact⟨rfl,q⟩
theorem X9 {a : Nat} (h:a<=b):(fX s a).length<=(fX s b).length:=by
 induction b with
 |zero=>grind
 |succ b ih=>
  rcases mq b a with g|g
  .grind
  .have:=ih g;cases hk:qw s b
   .rw[Jb hk];omega
   .rw[vN hk];grind
theorem aca:j < (fX s n).length->∃c,c < n/\qw s c=true/\(fX s c).length=j/\(fX s n)[j]?=some c:=by
 induction n with
 |zero=>simp[fX]
 |succ n ih=>
  intro h;cases hk:qw s n
  .rw[Jb hk]at h|-
   grind
  .rw[vN hk]at h|-
   grind
theorem TS (o:qw s c=true):c < n->(fX s n)[(fX s c).length]?=some c:=by
 induction n with
 |zero=>simp
 |succ n ih=>
  intro h;rcases mq c n with a|a
  .have g:=ih a;have m:(fX s c).length < (fX s n).length:=by
    rcases mq (fX s c).length (fX s n).length with h|h
    .exact h
    .grind
   cases hn:qw s n
   .rw[Jb hn];exact g
   .rw[vN hn,Mo m];exact g
  .have:c=n:=by omega
   subst this;rw[vN o];simp
theorem Ni (h:j < (oC s).size):∃c,c < s.size/\qw s c=true/\(fX s c).length=j/\iW s j=c/\bt (oC s) j=Pb s c:=by
 rw[uk]at h;have⟨c,h1,h2,h3,h4⟩:=aca h;refine⟨c,h1,h2,h3,?_,?_⟩
 .grind[iW]
 .have a:j < (oC s).size:=by rw[uk];exact h
  unfold bt;rw[wQ a];show(((((fX s s.size).map (cS s)).toArray)[j]'(by grind)).toNat:Int)=_;have e:(fX s s.size)[j]=c:=by rw[pY h]at h4;exact jr h4
  simp only[List.getElem_toArray,List.getElem_map,e];exact L6 s c
def AW (s:fN):iW s (oC s).size=s.size:=by
 unfold iW;rw[uk,uX,N7 (gr _)];simp
def YC (g:i < j) (m:j<=(oC s).size):iW s i < iW s j:=by
 have⟨c,h1,_,h3,h4,_⟩:=Ni (s:=s) (j:=i) (by omega);rw[h4];rcases mq j (oC s).size with a|a
 .have⟨d,_,_,g3,g4,_⟩:=Ni a;rw[g4];rcases mq c d with h|h
  .exact h
  .have:=X9 (s:=s) h;omega
 .have:j=(oC s).size:=by omega
  rw[this,AW];exact h1
def YV (h:i<=(oC s).size):iW s i<=s.size:=by
 rcases mq i (oC s).size with a|a
 .have:=YC a (gr _);rw[AW]at this;omega
 .have:i=(oC s).size:=by omega
  rw[this,AW];simp
theorem YD (s:fN):iW s 0=0:=by
 rcases EN s.size with h|h
 .have:=YV (s:=s) (i:=0) (im _);omega
 .have a:qw s 0=true:=by unfold qw;simp
  have g:=TS (s:=s) (n:=s.size) a h;have m:(fX s 0).length=0:=rfl
  grind[iW]
def Yp (h:i < (oC s).size) (a:bt (oC s) i=60):bt s (iW s i)=60:=by
 have⟨c,_,_,_,h4,h5⟩:=Ni h;rw[h4];rw[h5]at a;unfold Pb at a;omega
theorem aak {m : Nat} (t:0 < m) (h:m<=(oC s).size) (a:bt (oC s) (m - 1)=62):bt s (iW s m - 1)=62:=by
 have⟨c,h1,h2,h3,h4,h5⟩:=Ni (s:=s) (j:=m - 1) (by omega);rw[h5]at a;have o:bt s c=62:=by
  unfold Pb at a;split at a
  .omega
  .exact a
 have x:(fX s (c+1)).length=m:=by rw[vN h2];simp;omega
 have e:iW s m=c+1:=by
  rcases mq (c+1) s.size with g|g
  .have q:qw s (c+1)=true:=by unfold qw;simp[o]
   have u:=TS (s:=s) q g
   grind[iW]
  .grind[iW]
 grind
def ci (s:fN):List Sp->Nat->Prop
 |[],p=>p=0
 |x::xs,p=>x.b=(p:Int)/\∃q:Nat,x.a=(q:Int)/\q < p/\1<=x.k/\x.k<=6/\(x.k≠1->bt s q=60/\(bt s (p - 1)=62\/p=s.size))/\(x.k=1->∀y a,xs=y::a->y.k≠1)/\ci s xs q
theorem acq {g : Nat} {a : Nat} (h:ci s L.reverse p) (u:p < g) (q:1<=a) (o:a<=6) (t:a≠1->bt s p=60/\(bt s (g - 1)=62\/g=s.size)):ci s (qA L ⟨a,p,g⟩).reverse g:=by
 rcases Uc L with rfl|⟨M,l,rfl⟩
 .grind[ci,qA]
 .rw[List.concat_eq_append]at h|-;rw[MJ]at h;simp only[List.reverse_cons,List.reverse_nil,rM,List.singleton_append]at h
  by_cases m:((a:Nat):Int)=1/\l.k=1
  .rw[Mk M l _ m,MJ]
   grind[ci]
  grind[ci,qA]
def abZ (k:RV):uO k<=6:=by cases k<;>simp[uO]
def OC {rY : Int} {av : gh} (G:∀x t,look x=some t->t.size<=16) (H:(oC s).size<=1024):∀(n ps:Nat) (σ:Ab) (L:List Sp),ps<=(oC s).size->ci s L.reverse (iW s ps)->∀q M,nc (rI s rY av b) look lg (iW s) n ps σ L= .done q M->ci s M.reverse s.size:=by
 intro n
 induction n with
 |zero=>intro ps σ L _ _ q M h;cases h
 |succ n ih=>
  intro ps σ L I F q M h;rw[nc]at h;have a:=λ(g:ps < (oC s).size)=>Ct (R:=QR (rI s rY av b) σ.mV σ.iA) (look:=look) (lg:=lg) (ps:=ps) G H g;have o:ps=(oC s).size->ke (QR (rI s rY av b) σ.mV σ.iA) look lg ps= .tok .Xr (oC s).size:=λe=>by rw[e];exact Jn (R:=QR (rI s rY av b) σ.mV σ.iA)
  revert h a o;cases ke (QR (rI s rY av b) σ.mV σ.iA) look lg ps with
  |stop=>simp
  |tok k m=>
   intro h a o;dsimp only at h;revert h;cases ql (gD false wu) (pC (iW s ps) (iW s m) k) (wO (rI s rY av b) σ ps (pC (iW s ps) (iW s m) k))with
   |stuck=>simp
   |stop c p=>simp
   |ok u σ2=>
    intro h;dsimp only at h;split at h
    .rename_i E;cases h;rcases mq ps (oC s).size with g|D
     .have:=(a g).1.2.2.1;omega
     .have e:ps=(oC s).size:=by omega
      rwa [e,AW]at F
    .rename_i E;rcases mq ps (oC s).size with g|D
     .have⟨⟨g1,g2,g3,g4,_⟩,g6⟩:=a g;have y:m<=(oC s).size:=g2;refine ih m σ2 _ y (acq F (YC g1 y) g3 (abZ k) λz=>⟨?_,?_⟩) q M h
      .exact Yp g (g6 k m rfl z)
      .rcases g4 z with A|A
       .right;have C:m=(oC s).size:=A;rw[C,AW]
       .left;exact aak (by omega) y A
     .have:=o (by omega);obtain⟨rfl,_⟩:=zG.tok.inj this;exact absurd rfl E
structure adA (s:fN) (n:Nat) (A:Nat->Sp) (cut:Nat->Nat) (p:Nat):Prop where
 a:∀i,i < n->(A i).a=(cut i:Int)
 b:∀i,i < n->(A i).b=(cut (i+1):Int)
 lt:∀i,i < n->cut i < cut (i+1)
 le:∀i,i<=n->cut i<=p
 zero:cut 0=0
 last:cut n=p
 kd:∀i,i < n->1<=(A i).k/\(A i).k<=6
 ch:∀i,0 < i->i < n->(A i).k=1->(A (i - 1)).k≠1
 open_:∀i,i < n->(A i).k≠1->bt s (cut i)=60
 shut:∀i,i < n->(A i).k≠1->bt s (cut (i+1) - 1)=62\/cut (i+1)=s.size
def xW (L:List Sp) (i:Nat):Sp:=L.getD i ⟨0,0,0⟩
theorem Qx {xs : List Sp}:∀{p:Nat},ci s xs p->∃cut,adA s xs.length (xW xs.reverse) cut p:=by
 induction xs with
 |nil=>
  intro p h;have A:p=0:=h;subst A;exact⟨λ_=>0,by simp,by simp,by simp,λ_ _=>gr _,rfl,rfl,by simp,by simp,by simp,by simp⟩
 |cons x xs ih=>
  intro p h;have⟨h1,q,h2,h3,h4,h5,h6,h7,h8⟩:=h;have⟨cut,T⟩:=ih h8;have t:∀i,i < xs.length->xW (x::xs).reverse i=xW xs.reverse i:=by
   intro i m;unfold xW;rw[List.reverse_cons,uX,uX,Mo (by grind)]
  have u:xW (x::xs).reverse xs.length=x:=by
   unfold xW;rw[List.reverse_cons,uX,N7 (by simp)];simp
  have o:∀i,i<=xs.length->(if i<=xs.length then cut i else p)=cut i:=λi m=>fU m;have c2:(if xs.length+1<=xs.length then cut (xs.length+1)else p)=p:=gn (by omega);refine⟨λi=>if i<=xs.length then cut i else p,?_,?_,?_,?_,?_,?_,?_,?_,?_,?_⟩
  .intro i m;rw[o i (by grind)];rcases mq i xs.length with a|a
   .rw[t i a];exact T.a i a
   .have:i=xs.length:=by simp at m;omega
    subst this;rw[u,h2,T.last]
  .intro i m;rcases mq i xs.length with a|a
   .rw[o (i+1) a,t i a];exact T.b i a
   grind
  .intro i m;rcases mq i xs.length with a|a
   .show(if i<=xs.length then cut i else p) < (if i+1<=xs.length then cut (i+1)else p);rw[o (i+1) a,o i (by omega)];exact T.lt i a
   .have:i=xs.length:=by simp at m;omega
    subst this;show(if xs.length<=xs.length then cut xs.length else p) < (if xs.length+1<=xs.length then cut (xs.length+1)else p);rw[c2,o _ (gr _),T.last];exact h3
  .intro i m;show(if i<=xs.length then cut i else p)<=p;rcases mq xs.length i with a|a
   .grind
   .rw[o i a];have:=T.le i a;omega
  .show(if 0<=xs.length then cut 0 else p)=0;rw[o 0 (im _)];exact T.zero
  .omega
  .intro i m;rcases mq i xs.length with a|a
   .rw[t i a];exact T.kd i a
   grind
  .intro i z m g;rcases mq i xs.length with a|a
   .rw[t i a]at g;rw[t (i - 1) (by omega)];exact T.ch i z a g
   .have:i=xs.length:=by simp at m;omega
    subst this;rw[u]at g;rw[t _ (by omega)];cases xs with
    |nil=>grind
    |cons y ys=>
     grind[xW]
  .intro i m g;show bt s (if i<=xs.length then cut i else p)=60;rw[o i (by grind)];rcases mq i xs.length with a|a
   .rw[t i a]at g;exact T.open_ i a g
   .have:i=xs.length:=by simp at m;omega
    subst this;rw[u]at g;rw[T.last];omega
  .intro i m g;show bt s ((if i+1<=xs.length then cut (i+1)else p) - 1)=62\/(if i+1<=xs.length then cut (i+1)else p)=s.size;rcases mq i xs.length with a|a
   .rw[o (i+1) a];rw[t i a]at g;exact T.shut i a g
   grind
def Nw {d f l : Nat} (m:s.size<=1024) {a : Ab} {M : List Sp} (h:As d f l s= .done a M):∃cut,Trail s M.length (xW M) cut:=by
 have g:ci s M.reverse s.size:=OC (rY:=(l:Int)) (av:= .nilFunc) (b:=0) xk (by have:=DA s;omega) _ 0 _ [] (im _) (by show iW s 0=0;exact YD s) a M h;have⟨cut,T⟩:=Qx g;rw[List.length_reverse,List.reverse_reverse]at T;exact⟨cut,T.a,T.b,T.lt,T.le,T.zero,T.last,T.kd,T.ch,T.open_,T.shut⟩
def MU {d f l : Nat} (o:s.size<=1024) (g:d<=64) (m:f<=32) (h:As d f l s= .stop c p):p<=s.size:=by
 have a:=EW d f l s o g m;rw[h]at a;obtain⟨q,_,t,rfl⟩:=a;exact YV t
def Vu (a:mD σ):∃K,∀(E:Env) (f:Nat->Nat) (w:fO),RF E f σ w->jo w (NH σ (K+1) (.el 0)) (.el (f 0)):=by
 have⟨r,hv⟩:=a;have⟨B,hB⟩:=AM r σ.nodes.length;refine⟨B+1,λE f w h=>?_⟩;obtain⟨L,rfl,g⟩:=h;refine Ul g hv hB (B+2) (.el 0) hv.vc ?_ (by omega);omega
theorem YM (q:mD σ) (t:NG σ) (o:wt σ<=595500) (K:Nat):∃nm fX T,NH σ (K+1) (.el 0)= .el nm fX T/\Yd T:=by
 have⟨r,hv⟩:=q;have⟨e,he⟩:=Option.isSome_iff_exists.1 hv.vc;have a:NH σ (K+1) (.el 0)= .el e.name e.gy (e.kids.map (NH σ K)):=by
  show(match σ.gF 0 with|some e=>Tn.el e.name e.gy (e.kids.map (NH σ K))|none=>GM)=_
  rw[he]
 have g:=adT ⟨r,hv⟩ (K+1) 0;have h:=acT t (K+1) (.el 0);rw[a]at g h;have m:dh (wt σ) (e.kids.map (NH σ K)):=h.2.2.2;have x:1+cr (e.kids.map (NH σ K))<=1+wt σ:=g;refine⟨_,_,_,a,λu=>?_,?_⟩
 .have⟨g1,g2,_⟩:=M4 o u _ m
  grind
 .have⟨_,_,g3⟩:=M4 o (λ_=>false) _ m
  grind[ux]
structure W4 (w:fO):Prop where
 dD:ya w
 gl:K5 w
 er:errorType w
 el:0 < w.heap.size
def W4.kept (h:W4 w) (a:Kept [] w w'):W4 w':=⟨h.dD.fr (bm:=0) (.gv a),h.gl.kept a,h.er.kept a (by simp),lz h.el a.size⟩
structure aae (s:fN) (X:Told):Prop where
 TI:X.cW.length<=1000000000
 dW:X.cf.length<=1024
 or:(X.c≠0/\X.p<=s.size/\X.cW=[]/\X.fq=⟨#[]⟩/\X.cf=[])\/(X.c=0/\X.p=s.size/\∃cut,Trail s X.cf.length (xW X.cf) cut)
def Xl {A : Nat->Sp} (h:Trail s n A cut):n<=s.size:=by
 have:∀i,i<=n->i<=cut i:=by
  intro i
  induction i with
  |zero=>simp
  |succ i ih=>
   intro m;have a:=ih (by omega);have g:=h.lt i (by omega);omega
 have a:=this n (gr _)
 rwa [h.last]at a
def TX (s:fN) (X:Told):Prop:=(∃c p,MV s 64 32 16 c p/\X=⟨c,p,[],⟨#[]⟩,[]⟩)\/∃nm fX T L,Np s 64 32 16 (.el nm fX T) L/\Yd T/\X=⟨0,s.size,ux T,Zk T,L⟩
theorem abj (s:fN) (o:s.size<=1024):∃X,aae s X/\TX s X:=by
 have m:=EW 64 32 16 s o (by omega) (by omega);cases h:As 64 32 16 s with
 |stuck=>rw[h]at m;exact m.elim
 |stop c p=>
  refine⟨⟨c,p,[],⟨#[]⟩,[]⟩,⟨im _,im _,.inl ⟨RE 64 32 16 s o (by omega) h,MU o (by omega) (by omega) h,rfl,rfl,rfl⟩⟩,.inl ⟨c,p,λz g w x q t=>?_,rfl⟩⟩;exact(MF s z g 64 32 16 w x o (by omega) (by omega) (by omega) q t).mono (λe w' y=>by grind)
 |done fin L=>
  rw[h]at m;have⟨g1,g2,_⟩:=m;have u:=Vv 64 32 16 s o (by omega) h;have G:wt fin<=595500:=by
   have A:wt fin<=Kk fin:=Fo _ _;have C:=YL (d:=64) (f:=32) (l:=16) (a:=0);have D:=DA s;have F:(rI s ((16:Nat):Int) .nilFunc 0).cs.size=(oC s).size:=rfl;omega
  have⟨K,hK⟩:=Vu g1.iv;have⟨nm,fX,T,q,hD⟩:=YM g1.iv u G K;rw[q]at hK;have⟨cut,hTr⟩:=Nw o h;refine⟨⟨0,s.size,ux T,Zk T,L⟩,⟨hD.2,by have:=Xl hTr;grind,.inr ⟨rfl,rfl,cut,hTr⟩⟩,.inr ⟨nm,fX,T,L,λz g w x q t=>?_,hD,rfl⟩⟩;refine(MF s z g 64 32 16 w x o (by omega) (by omega) (by omega) q t).mono λe w' y=>?_;rw[h]at y;have⟨v,k,E,fl,A,C,D,F,h5,h6⟩:=y
  grind[YI]
def TX.one (m:s.size<=1024) {X : Told} (h:TX s X):∀w,W4 w->Calls prog 8 #[fR s,fK 64,fK 32,fK 16,iQ] w (NN w X):=by
 intro w a;rcases h with⟨c,p,g,rfl⟩|⟨nm,fX,T,L,g,o,rfl⟩
 .exact Sf s 64 32 16 w m (by omega) (by omega) (by omega) a.dD a.gl g a.er a.el
 .exact S8 s 64 32 16 w m (by omega) (by omega) (by omega) a.dD a.gl g o
def Wm (s:fN) (w:fO) (g:1024 < s.size) (a:s.size<=140737488355328):
  Calls prog 10 #[fR s] w λe w'=>e=gO (.tuple #[.agg #[fK 0,fK 0,iQ,fR js,iQ],.bool false,.bool true])/\Kept [] w w':=by
 go_enter func10,ntmps10;go_wp2;refine nK (v:= .tuple #[.agg #[fK 0,fK 0,iQ,fR js,iQ],.bool false,.bool true]) ?_ rfl ⟨rfl,?_⟩
 .simp[results,results10,asAddr,Result.andThen,go_sem]
 .exact(Kept.refl [] w).alloc _
def Lp (s:fN) (w:fO) (a:s.size=0):
  Calls prog 11 #[fR s,iQ] w λe w'=>e=gO (.bool true)/\Kept [] w w':=by
 go_enter func11,ntmps11;go_wp2;refine vB 1 ?_;rw[oj];go_wp2;go_ret;exact⟨rfl,Kept.refl _ _⟩
theorem aan {base g o : Nat} (q:w.ownsRow base 53 3 (mW g L.length o) L.length (j8 L)):En w g 0 L.length (xW L):=by
 have m:∀(L:List Sp) (i k:Nat),i < L.length->k < 3->(j8 L)[i*3+k]?=[Value.int .i64 (xW L i).k,fK (xW L i).a,fK (xW L i).b][k]?:=by
  intro L
  induction L with
  |nil=>simp
  |cons p L ih=>
   intro i k a h;show(Value.int .i64 p.k:: fK p.a:: fK p.b::j8 L)[i*3+k]?=_;cases i with
   |zero=>
    have e:xW (p::L) 0=p:=rfl
    grind
   |succ i=>
    have e:xW (p::L) (i+1)=xW L i:=by unfold xW;simp
    grind
 have c:∀i k,i < L.length->k < 3->w.cell? ⟨g,i*3+k,none⟩=[Value.int .i64 (xW L i).k,fK (xW L i).a,fK (xW L i).b][k]?:=by
  intro i k a h
  match k,h with
  |0,h=>have:=q.cells (g:=g) rfl (i*3+0) _ (m L i 0 a h);rw[iT]at this;grind
  |1,h=>have:=q.cells (g:=g) rfl (i*3+1) _ (m L i 1 a h);rw[iT]at this;grind
  |2,h=>have:=q.cells (g:=g) rfl (i*3+2) _ (m L i 2 a h);rw[iT]at this;grind
 refine⟨λi a=>?_,λi a=>?_,λi a=>?_⟩
 .rw[Nat.zero_add];exact c i 0 a (by omega)
 all_goals grind
def afq (w:fO) (X:Told) (e:Ending) (w':fO):Prop:=∃q o m a g h,e=gO (.tuple #[.agg #[fK X.c,fK X.p,.slice q o m,fR X.fq,.slice a g h],.bool (decide (X.c=0)),.bool true])/\(X.c=0->w'.ownsRow w.heap.size 53 3 (.slice a g h) X.cf.length (j8 X.cf))/\Kept [] w w'
theorem adH (s:fN) (w:fO) (hs:s.size<=1024) (hw:W4 w) {X : Told} (hX:aae s X) (hC:∀w,W4 w->Calls prog 8 #[fR s,fK 64,fK 32,fK 16,iQ] w (NN w X)):
  Calls prog 10 #[fR s] w (afq w X):=by
 obtain⟨D,q⟩:∃D,D=w.alloc (.cells #[fK 0,fK 0,iQ,fR js,iQ] 28):=⟨_,rfl⟩;have x:Kept [] w D:=by rw[q];exact(Kept.refl _ _).alloc _
 have HZ:D.heap.size=w.heap.size+1:=by rw[q];simp
 have Z:D.heap[w.heap.size]?=some (fV #[fK 0,fK 0,iQ,fR js,iQ] 28):=by rw[q];exact fB w _
 have CR:=hC D (hw.kept x);have HW:=fx q.symm;have HX:=hX;clear q;go_enter func10,ntmps10
 go_wp21
 rw[HW.out];refine CR.mono ?_;rintro e T ⟨S,Y,P,G,Q,H,rfl,F,t,u⟩;have⟨c,p,cW,fq,cf⟩:=X;dsimp only at F t|-;rcases HX.or with⟨C,hp,hi,ht,E⟩|⟨C, -⟩
 .dsimp only at C hp hi ht E;subst hi ht E;have U:Y=0:=by have⟨_,_,e0⟩:=fS F;exact(Fv e0).2.1
  have V:Q=0:=by have⟨_,_,e0⟩:=fS t;exact(Fv e0).2.1
  subst U V;have a1:(c:Int)≠0:=by omega
  have a2:(p:Int)<=(s.size:Int):=by omega
  have a:=u.at Z (by simp);have I:=fw a 0;have J:=fw a 1;have K:=fw a 2;have N:=fw a 3;have O:=fw a 4;have j0:=fA a 0;have j1:=fA a 1;have j2:=fA a 2;have j3:=fA a 3;have j4:=fA a 4;dsimp at I J K N O;have z:=iB a;have A:w.heap.size≠T.heap.size:=by omega
  have o:T.heap.size≠w.heap.size:=by omega
  have y:=x.trans u;have a0:=fx C;clear C
  go_wp21
  go_region
  all_goals (try go_wp2)
  all_goals
   refine nK (v:= .tuple #[.agg #[fK c,fK p,.slice S 0 P,fR js,.slice G 0 H],.bool false,.bool true]) ?_ rfl ⟨S,0,P,G,0,H,?_,?_,?_⟩
   .simp[results,results10,asAddr,Result.andThen,go_sem,I,J,K,N,O,A,o,z]
   .simp_all
   .grind
   .have m:=y
    first
     |exact(((((((m.setCell (.inr (gr _)) _).setCell (.inr (gr _)) _).setCell (.inr (gr _)) _).setCell (.inr (gr _)) _).setCell (.inr (gr _)) _).alloc _).drew)
     |exact(((((((m.setCell (.inr (gr _)) _).setCell (.inr (gr _)) _).setCell (.inr (gr _)) _).setCell (.inr (gr _)) _).setCell (.inr (gr _)) _).drew).alloc _)
     |exact(((((((m.alloc _).drew.setCell (.inr (gr _)) _).setCell (.inr (gr _)) _).setCell (.inr (gr _)) _).setCell (.inr (gr _)) _).setCell (.inr (gr _)) _))
 .dsimp only at C;subst C;have a:=u.at Z (by simp);have I:=fw a 0;have J:=fw a 1;have K:=fw a 2;have N:=fw a 3;have O:=fw a 4;have j0:=fA a 0;have j1:=fA a 1;have j2:=fA a 2;have j3:=fA a 3;have j4:=fA a 4;dsimp at I J K N O;have z:=iB a;have A:w.heap.size≠T.heap.size:=by omega
  have o:T.heap.size≠w.heap.size:=by omega
  have y:=x.trans u;have g:(Value.slice G Q H).ownBlock≠some w.heap.size:=λh=>by have:=(t.lt _ h).1;omega
  go_wp2;refine nK (v:= .tuple #[.agg #[fK 0,fK p,.slice S Y P,fR fq,.slice G Q H],.bool true,.bool true]) ?_ rfl ⟨S,Y,P,G,Q,H,rfl,?_,?_⟩
  .simp[results,results10,asAddr,Result.andThen,go_sem,I,J,K,N,O,A,o,z]
  .intro _;exact jR (World.ownsRow.alloc (tG (tG (tG (tG (tG t g _) g _) g _) g _) g _) _) (by omega)
  .have m:=y;exact((((((m.setCell (.inr (gr _)) _).setCell (.inr (gr _)) _).setCell (.inr (gr _)) _).setCell (.inr (gr _)) _).setCell (.inr (gr _)) _).alloc _)
def abK (s:fN) (w:fO) (Y:s.size<=140737488355328) (Z:W4 w):
  Calls prog 4 #[fR s] w λe w'=>e=gO (.bool true)/\Kept [] w w':=by
 by_cases m:1024 < s.size
 .have C:=Wm s w m Y;go_enter func4,ntmps4
  go_wp21
  refine C.mono ?_;rintro e y ⟨rfl,h⟩;have o:=h.alloc (.cells #[fK 0,fK 0,iQ,fR js,iQ] 28);go_wp2;go_ret;exact⟨rfl,o⟩
 .have⟨X,HX,hTX⟩:=abj s (by omega);have U:=hTX.one (by omega);have C:=adH s w (by omega) Z HX U;go_enter func4,ntmps4
  go_wp21
  refine C.mono ?_;rintro e y ⟨J,H,A,N,O,I,rfl,a,h⟩;have⟨c,p,cW,fq,cf⟩:=X;dsimp only at a|-;rcases HX.or with⟨q, -⟩|⟨q, -,cut,x⟩
  .dsimp only at q;rw[vD q];have o:=h.alloc (.cells #[fK c,fK p,.slice J H A,fR fq,.slice N O I] 28);go_wp2;go_ret;exact⟨rfl,o⟩
  .dsimp only at q x;subst q;replace a:=a rfl;rw[uJ rfl];have G:Kept [] y (y.alloc (.cells #[fK 0,fK p,.slice J H A,fR fq,.slice N O I] 28)):=(Kept.refl _ _).alloc _;have o:=h.trans G;have u:=HX.dW;dsimp only at u;rcases a.2 with⟨e1,S⟩|⟨g,P,Q,e1,V,D,_⟩;obtain⟨rfl,rfl,rfl⟩:=Fv e1;have F:s.size=0:=by
    have T:=x.last;have h2:=x.zero;rw[S]at T;omega
   have K:=Lp s (y.alloc (.cells #[fK 0,fK p,.slice J H A,fR fq,iQ] 28)) F
   rotate_left
   obtain⟨rfl,rfl,rfl⟩:=Fv e1;have t:=iB D;have K:=RR s g 0 I cf.length (xW cf) cut _ ((aan a).kept G t) (lz t G.size) (by omega) (by omega) x
   all_goals
    go_wp21
    refine K.mono ?_;rintro e w2 ⟨rfl,E⟩;have z:=o.trans E;go_wp2;go_ret;exact⟨rfl,z⟩
end
end Go.Proofs.YtlhhgenpcjjajaaGreatDoor
