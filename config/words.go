package config

import "turnstile/api"

// What is taken for a name that is missing.
const (
	takenWeight   = 1
	takenPolicy   = api.PolicyTurns
	takenRetries  = 0
	takenTimeout  = 30
	takenLeeway   = 0
	takenMaxHead  = 8192
	takenMaxBody  = 65536
	takenMaxConns = 64
	takenIdle     = 60
	takenHeader   = 10
)

// policyWords are the words for policies, each at the place of its number; 0 has none.
func policyWords() []string {
	return []string{api.PolicyTurns: "turns", api.PolicyHash: "hash"}
}

// byWords are the words for whom a limit counts by, each at the place of its number; 0 has none.
func byWords() []string {
	return []string{api.ByClient: "client", api.BySubject: "subject"}
}
