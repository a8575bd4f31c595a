import Derived.Test.YtjnpndfpajjihadGreatGrJournalRuns5
import Derived.Test.YtjnpndfpajjihadGreatGrJournalRuns32
import Derived.Test.YtjnpndfpajjihadGreatGrJournalRuns4
set_option maxRecDepth 100000
set_option maxHeartbeats 40000000
namespace Go.Proofs.YtjnpndfpajjihadGreat
open Go.Proofs.Tryz
open Go.RowKit
open Value renaming int -> H,string -> A
open IntKind renaming i64 -> G
open Go renaming World -> K
open Ending renaming returned -> N
variable{a:Option Addr}{b h:Int}{s:ByteArray}{t:Tx}{v:Value}
theorem iW(c:Nat):Lib.repeatL [(0:UInt8)] c=List.replicate c 0:=by
 induction c with
 |zero=>rfl
 |succ k ih=>simp[Lib.repeatL,List.replicate_succ,ih]
theorem US(s:ByteArray)(h:32<=s.size):fitT s=s.extract 0 32:=by
 apply Lf;rw[fitT,bD,show 32 - s.size=0 from by omega];apply Ce;simp[ByteArray.data_extract]
theorem yV(s z:ByteArray)(h:¬32<=s.size)(B:z=⟨(List.replicate (32 - s.size) 0).toArray⟩):fitT s=s++z:=by
 apply Lf;rw[ByteArray.data_append,B];apply Ce;have hl:s.data.toList.length=s.size:=rfl;simp only[fitT,bD,Array.toList_append];rw[zd (by omega)]
theorem GX(c:Nat)(w:K)(hc:c<=32):
  Calls prog 91 #[A ⟨#[0]⟩,H G c] w λe B=>∃z:ByteArray,e=N (A z)/\z=⟨(List.replicate c 0).toArray⟩/\Below w.heap.size w B:=by
 refine(Tryz.strings_Repeat ⟨#[0]⟩ c w (by omega) (by show 1*c<=_;omega)).mono ?_;rintro e w1 ⟨rfl,hb⟩;exact⟨_,rfl,by rw[iW],hb⟩
theorem OF(s:ByteArray)(w:K)(R:s.size<=maxLen):
  Calls prog 48 #[A s] w λe Q=>e=N (A (fitT s))/\Below w.heap.size w Q:=by
 unfold maxLen at R;by_cases h:32<=s.size
 .have D:(32:Int)<=(s.size:Int):=by omega
  go_enter func48,ntmps48;go_wp2;go_ret;refine⟨?_,Ub _ _⟩;rw[US s h];rfl
 .have D:¬(32:Int)<=(s.size:Int):=by omega
  go_enter func48,ntmps48;have L:(32:Int) - (s.size:Int)=((32 - s.size:Nat):Int):=by omega
  have F:Hid ((32:Int) - (s.size:Int)=((32 - s.size:Nat):Int)):=L;clear L;go_wp2_with fail;rw[F.o];refine(GX (32 - s.size) _ (by omega)).mono ?_;rintro e w1 ⟨z,rfl,B,C⟩;have A0:z.size<=32:=by rw[B];show(List.replicate (32 - s.size) (0:UInt8)).toArray.size<=32;simp
  have E:Hid (fitT s=s++z):=yV s z h B;clear B;go_wp2;go_ret;exact⟨by rw[E.o];rfl,C⟩
theorem kL(e:reachE t h b=0):0<=b/\b<=11:=by
 unfold reachE at e;split at e
 .cases e
 .split at e
  .cases e
  .rename_i hx;omega
theorem EQ(e:changeE t h b s=0):0<=b/\b<=11:=by
 unfold changeE at e;split at e
 .rename_i A;exact absurd e A
 .rename_i A;exact kL (by simpa using A)
theorem cM(e:fillE t h b s=0):0<=b/\b<=11:=by
 unfold fillE at e;split at e
 .rename_i A;exact absurd e A
 .rename_i A;exact kL (by simpa using A)
theorem JN(e:revokeE t h b=0):0<=b/\b<=11:=by
 unfold revokeE at e;split at e
 .rename_i A;exact absurd e A
 .rename_i A;exact kL (by simpa using A)
section
variable {w:World} {X:List Nat} {n:Nat}
theorem IsTx.hideF(h:IsTx w v t)(Q:CL n v t)(L:∀x∈X,x<n):IsTx (aA w X) v t:=by
 obtain⟨a,c,F,B,r,d,rfl,J,A,C,I⟩:=h;obtain⟨b0,b1,b2,b3,b4,b5,e,f1,D,E⟩:=Q;simp only[Value.agg.injEq]at e
 injection e with e
 simp only[List.cons.injEq,Value.slice.injEq,true_and,and_true]at e;obtain⟨⟨rfl,rfl⟩,⟨rfl,rfl⟩,rfl,rfl⟩:=e;exact⟨a,c,F,B,r,d,rfl,J.hideF f1 L,A.hideF D L,C.hideF E L,I⟩
theorem SegW.as{l B:List (Int×ByteArray)}(h:SegW (aA w X) a l)(h2:SegW w a B)(e:l.length=B.length):SegW (aA w X) a B:=by
 rcases h2 with t|⟨x,L,rfl,D,c⟩
 .exact .inl t
 .rcases h with s|⟨y,A0,d,A1,R⟩
  .exact .inl (Tc (by rw[<-e,s];rfl))
  .cases d;by_cases h0:B.length=0
   .exact .inl (Tc h0)
   .have A:=(qC (R 0 (by omega)).1).1;exact .inr ⟨x,L,rfl,by rw[tC];exact D,λi Q=>⟨oC A (c i Q).1,oC A (c i Q).2⟩⟩
theorem SegI.as{l B:List Int}(h:SegI (aA w X) a l)(h2:SegI w a B)(e:l.length=B.length):SegI (aA w X) a B:=by
 rcases h2 with t|⟨x,L,rfl,D,d⟩
 .exact .inl t
 .rcases h with s|⟨y,A0,c,A1,Q⟩
  .exact .inl (Tc (by rw[<-e,s];rfl))
  .cases c;by_cases h0:B.length=0
   .exact .inl (Tc h0)
   .have A:=(qC (Q 0 (by omega))).1;exact .inr ⟨x,L,rfl,by rw[tC];exact D,λi R=>oC A (d i R)⟩
theorem IsTx.asTx{Q:Tx}(h:IsTx (aA w X) v t)(h2:IsTx w v Q):IsTx (aA w X) v Q:=by
 obtain⟨a,c,M,E,r,d,rfl,F,K,J,_⟩:=h;obtain⟨b0,b1,b2,b3,b4,b5,e,D,A,C,I⟩:=h2;have B:=e;simp only[Value.agg.injEq]at e
 injection e with e
 simp only[List.cons.injEq,Value.slice.injEq,and_true]at e;obtain⟨_,⟨rfl,L,rfl⟩,⟨rfl,N,rfl⟩,⟨rfl,O,rfl⟩,_⟩:=e;exact⟨a,c,M,E,r,d,B,F.as D L,K.as A N,J.as C O,I⟩
end
